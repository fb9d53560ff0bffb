/-
  Statements of the law of milling, walked alone. Statements of the law of milling, walked alone.
-/
import Derived.Test.YtbjljofgpbecbaaMvd
import Derived.Test.YtbjljofgpbecbaaMlRun
import Derived.Test.YtbjljofgpbecbaaInv2
namespace Go.Proofs.Ytbjljofgpbecbaa
open Go.ChangeShapes Go.WideShapes Go.ChangeAt Go.RowKit
set_option linter.unusedVariables false
set_option linter.unusedSimpArgs false

noncomputable def reg3 (id : Nat) : Go.Code := match Try.f3.body with | some c => (regOf id c).getD .skip | none => .skip
set_option maxHeartbeats 4000000 in
set_option maxRecDepth 100000 in
theorem mm13 {s0 s1 s2 s3 s4 s9 s10 s11 s13 s14 s15 s16 s17 s18 s19 s20 s21 s22 s23 s24 s25 s26 s27 s28 s29 s30 s31 s32 s33 s34 s35 s36 s37 s38 s39 s40 s41 s42 s43 s44 s45 s46 s47 s48 s49 s50 s51 s52 s53 s54 s55 s56 s57 s58 s59 s60 s61 s62 s63 s64 s65 s66 s67 s68 s69 s70 s71 s72 s73 s74 s75 s76 s77 s78 s79 s80 s81 s82 s83 s84 s85 s86 s87 s88 s89 s90 s91 s92 s93 s94 s95 s96 s97 s98 s99 s100 s101 s102 s103 s104 s105 s106 s107 s108 s109 s110 s111 s112 s113 s114 s115 s116 s117 s118 s119 s120 s121 s122 s123 s124 s125 s126 s127 s128 s129 s130 s131 s132 s133 s134 s135 s136 s137 s138 s139 s140 s141 s142 s143 s144 s145 s146 s147 s148 s149 s150 s151 s152 s153 s154 s155 s156 s157 s158 s159 s160 s161 s162 s163 s164 s165 s166 s167 s168 s169 s170 s171 s172 s173 s174 s175 s176 s177 s178 s179 s180 s181 s182 s183 s184 s185 s186 s187 s188 s189 s190 s191 s192 s193 s194 s195 s196 s197 s198 s199 s200 s201 s202 s203 s204 s205 s206 s207 s208 s209 s210 s211 s212 s213 s214 s215 s216 s217 s218 s219 s220 s221 s222 s223 s224 s225 s226 s227 s228 s229 s230 s231 s232 s233 s234 s235 s236 s237 s238 s239 s240 s241 s242 s243 s244 s245 s246 s247 s248 s249 s250 s251 : Value} {Wd Hd r gs pos cs g po c n qm m cm kk b5 b6 : Nat} {s : Ml} {V : World} {K_ : Act → World → Prop} (hkm : kk ≤ m) (hmc : m ≤ cm) (hcm : cm ≤ 9223372036854775807)
    (HS : Hid (vb V b5 25 [.int .i64 (Wd : Int), .int .i64 (Hd : Int), .slice (some ⟨gs, pos, none⟩) n cs])) (HP : Hid (vb V b6 25 [.int .i64 (Wd : Int), .int .i64 (Hd : Int), .slice (some ⟨g, po, none⟩) n c]))
    (HC11 : Hid (∀ X, Below V.heap.size V X → Calls Try.prog 11 #[.agg #[.int .i64 (Wd : Int), .int .i64 (Hd : Int), .slice (some ⟨gs, pos, none⟩) n cs], .agg #[.int .i64 (Wd : Int), .int .i64 (Hd : Int), .slice (some ⟨g, po, none⟩) n c], .int .i64 (r : Int), .slice (some ⟨qm, 0, none⟩) kk cm] X fun e w' => (∃ q cap, e = .returned (.agg #[.int .i64 0, .int .i64 0, .int .i64 (Wd : Int), .int .i64 (Hd : Int), .slice (some ⟨q, 0, none⟩) n cap, .int .i64 s.cut, .int .i64 s.air, .int .i64 s.dep]) ∧ Row w' X.heap.size 3 1 (.slice (some ⟨q, 0, none⟩) n cap) n s.T) ∧ Below X.heap.size X w'))
    (hQ : ∀ (y87 y88 y89 y90 y91 y92 y93 : Value) (q cap M : Nat) (W' : World), Below V.heap.size V W' → Row W' V.heap.size 3 1 (.slice (some ⟨q, 0, none⟩) n cap) n s.T → V.heap.size ≤ M → vb W' M 31 [.int .i64 0, .int .i64 0, .int .i64 (Wd : Int), .int .i64 (Hd : Int), .slice (some ⟨q, 0, none⟩) n cap, .int .i64 s.cut, .int .i64 s.air, .int .i64 s.dep] → K_ { tmps := #[s0, s1, s2, s3, s4, .pointer (some ⟨b5, 0, none⟩), .pointer (some ⟨b6, 0, none⟩), .int .i64 ((r : Int)), .slice (some ⟨qm, 0, none⟩) m cm, s9, s10, s11, .int .i64 ((kk : Int)), .pointer (some ⟨M, 0, none⟩), s14, s15, s16, s17, s18, s19, s20, s21, s22, s23, s24, s25, s26, s27, s28, s29, s30, s31, s32, s33, s34, s35, s36, s37, s38, s39, s40, s41, s42, s43, s44, s45, s46, s47, s48, s49, s50, s51, s52, s53, s54, s55, s56, s57, s58, s59, s60, s61, s62, s63, s64, s65, s66, s67, s68, s69, s70, s71, s72, s73, s74, s75, s76, s77, s78, s79, s80, s81, s82, s83, s84, s85, s86, y87, y88, y89, y90, y91, y92, y93, s94, s95, s96, s97, s98, s99, s100, s101, s102, s103, s104, s105, s106, s107, s108, s109, s110, s111, s112, s113, s114, s115, s116, s117, s118, s119, s120, s121, s122, s123, s124, s125, s126, s127, s128, s129, s130, s131, s132, s133, s134, s135, s136, s137, s138, s139, s140, s141, s142, s143, s144, s145, s146, s147, s148, s149, s150, s151, s152, s153, s154, s155, s156, s157, s158, s159, s160, s161, s162, s163, s164, s165, s166, s167, s168, s169, s170, s171, s172, s173, s174, s175, s176, s177, s178, s179, s180, s181, s182, s183, s184, s185, s186, s187, s188, s189, s190, s191, s192, s193, s194, s195, s196, s197, s198, s199, s200, s201, s202, s203, s204, s205, s206, s207, s208, s209, s210, s211, s212, s213, s214, s215, s216, s217, s218, s219, s220, s221, s222, s223, s224, s225, s226, s227, s228, s229, s230, s231, s232, s233, s234, s235, s236, s237, s238, s239, s240, s241, s242, s243, s244, s245, s246, s247, s248, s249, s250, s251], defers := [] } W') :
    Go.Code.wp Try.prog (reg3 13) (Only K_) { tmps := #[s0, s1, s2, s3, s4, .pointer (some ⟨b5, 0, none⟩), .pointer (some ⟨b6, 0, none⟩), .int .i64 ((r : Int)), .slice (some ⟨qm, 0, none⟩) m cm, s9, s10, s11, .int .i64 ((kk : Int)), s13, s14, s15, s16, s17, s18, s19, s20, s21, s22, s23, s24, s25, s26, s27, s28, s29, s30, s31, s32, s33, s34, s35, s36, s37, s38, s39, s40, s41, s42, s43, s44, s45, s46, s47, s48, s49, s50, s51, s52, s53, s54, s55, s56, s57, s58, s59, s60, s61, s62, s63, s64, s65, s66, s67, s68, s69, s70, s71, s72, s73, s74, s75, s76, s77, s78, s79, s80, s81, s82, s83, s84, s85, s86, s87, s88, s89, s90, s91, s92, s93, s94, s95, s96, s97, s98, s99, s100, s101, s102, s103, s104, s105, s106, s107, s108, s109, s110, s111, s112, s113, s114, s115, s116, s117, s118, s119, s120, s121, s122, s123, s124, s125, s126, s127, s128, s129, s130, s131, s132, s133, s134, s135, s136, s137, s138, s139, s140, s141, s142, s143, s144, s145, s146, s147, s148, s149, s150, s151, s152, s153, s154, s155, s156, s157, s158, s159, s160, s161, s162, s163, s164, s165, s166, s167, s168, s169, s170, s171, s172, s173, s174, s175, s176, s177, s178, s179, s180, s181, s182, s183, s184, s185, s186, s187, s188, s189, s190, s191, s192, s193, s194, s195, s196, s197, s198, s199, s200, s201, s202, s203, s204, s205, s206, s207, s208, s209, s210, s211, s212, s213, s214, s215, s216, s217, s218, s219, s220, s221, s222, s223, s224, s225, s226, s227, s228, s229, s230, s231, s232, s233, s234, s235, s236, s237, s238, s239, s240, s241, s242, s243, s244, s245, s246, s247, s248, s249, s250, s251], defers := [] } V := by
  have HQ := hide hQ
  clear hQ
  conv => arg 2; whnf
  refine wp_region_inv2 (fun Lb A W => ∃ (u0 u1 u2 u3 u4 u5 u6 u7 u8 : Bool) (q : Nat) (cap : Nat) (M : Nat), Lb = #[u0, u1, u2, u3, u4, u5, u6, u7, u8] ∧ A = ({ tmps := #[s0, s1, s2, s3, s4, .pointer (some ⟨b5, 0, none⟩), .pointer (some ⟨b6, 0, none⟩), .int .i64 ((r : Int)), .slice (some ⟨qm, 0, none⟩) m cm, s9, s10, s11, .int .i64 ((kk : Int)), (bif u7 then .pointer (some ⟨M, 0, none⟩) else s13), s14, s15, s16, s17, s18, s19, s20, s21, s22, s23, s24, s25, s26, s27, s28, s29, s30, s31, s32, s33, s34, s35, s36, s37, s38, s39, s40, s41, s42, s43, s44, s45, s46, s47, s48, s49, s50, s51, s52, s53, s54, s55, s56, s57, s58, s59, s60, s61, s62, s63, s64, s65, s66, s67, s68, s69, s70, s71, s72, s73, s74, s75, s76, s77, s78, s79, s80, s81, s82, s83, s84, s85, s86, (bif u0 then .agg #[.int .i64 (Wd : Int), .int .i64 (Hd : Int), .slice (some ⟨gs, pos, none⟩) n cs] else s87), (bif u1 then .agg #[.int .i64 (Wd : Int), .int .i64 (Hd : Int), .slice (some ⟨g, po, none⟩) n c] else s88), (bif u2 then .int .i64 ((r : Int)) else s89), (bif u3 then .slice (some ⟨qm, 0, none⟩) m cm else s90), (bif u4 then .int .i64 ((kk : Int)) else s91), (bif u5 then .slice (some ⟨qm, 0, none⟩) kk cm else s92), (bif u6 then .agg #[.int .i64 0, .int .i64 0, .int .i64 (Wd : Int), .int .i64 (Hd : Int), .slice (some ⟨q, 0, none⟩) n cap, .int .i64 s.cut, .int .i64 s.air, .int .i64 s.dep] else s93), s94, s95, s96, s97, s98, s99, s100, s101, s102, s103, s104, s105, s106, s107, s108, s109, s110, s111, s112, s113, s114, s115, s116, s117, s118, s119, s120, s121, s122, s123, s124, s125, s126, s127, s128, s129, s130, s131, s132, s133, s134, s135, s136, s137, s138, s139, s140, s141, s142, s143, s144, s145, s146, s147, s148, s149, s150, s151, s152, s153, s154, s155, s156, s157, s158, s159, s160, s161, s162, s163, s164, s165, s166, s167, s168, s169, s170, s171, s172, s173, s174, s175, s176, s177, s178, s179, s180, s181, s182, s183, s184, s185, s186, s187, s188, s189, s190, s191, s192, s193, s194, s195, s196, s197, s198, s199, s200, s201, s202, s203, s204, s205, s206, s207, s208, s209, s210, s211, s212, s213, s214, s215, s216, s217, s218, s219, s220, s221, s222, s223, s224, s225, s226, s227, s228, s229, s230, s231, s232, s233, s234, s235, s236, s237, s238, s239, s240, s241, s242, s243, s244, s245, s246, s247, s248, s249, s250, s251], defers := [] } : Act) ∧ Below V.heap.size V W ∧ (u6 = true → Row W V.heap.size 3 1 (.slice (some ⟨q, 0, none⟩) n cap) n s.T) ∧ (u7 = true → V.heap.size ≤ M ∧ M < W.heap.size ∧ (u8 = false → vb W M 31 [.int .i64 0, .int .i64 0, .int .i64 0, .int .i64 0, .slice none 0 0, .int .i64 0, .int .i64 0, .int .i64 0])) ∧ (u6 = true → u7 = true → q ≠ M) ∧ (u8 = true → vb W M 31 [.int .i64 0, .int .i64 0, .int .i64 (Wd : Int), .int .i64 (Hd : Int), .slice (some ⟨q, 0, none⟩) n cap, .int .i64 s.cut, .int .i64 s.air, .int .i64 s.dep]) ∧ (u5 = true → u3 = true ∧ u4 = true) ∧ (u6 = true → u0 = true ∧ u1 = true ∧ u2 = true ∧ u5 = true) ∧ (u8 = true → u0 = true ∧ u1 = true ∧ u2 = true ∧ u3 = true ∧ u4 = true ∧ u5 = true ∧ u6 = true ∧ u7 = true)) (by kernel_rfl) (by kernel_rfl) ?h0 ?hstep ?hend
  case h0 =>
    exact ⟨false, false, false, false, false, false, false, false, false, 0, 0, 0, rfl, rfl, Below.drew (Below.refl _ _), (fun h => nomatch h), (fun h => nomatch h), (fun h => nomatch h), (fun h => nomatch h), (fun h => nomatch h), (fun h => nomatch h), (fun h => nomatch h)⟩
  case hstep =>
    rintro Lb A W ⟨u0, u1, u2, u3, u4, u5, u6, u7, u8, q, cap, M, rfl, rfl, kB, k6, k7, kN, k9, c5, c6, kF⟩
    refine ⟨?_, ?_, ?_, ?_, ?_, ?_, ?_, ?_, ?_, trivial⟩
    · intro h0 hd K hK
      have z : u0 = false := h0
      have z8_ : u8 = false := by
        cases hu : u8 with
        | false => rfl
        | true => exact nomatch z.symm.trans ((kF hu).1)
      have H_kB := hide kB
      have H_k6 := hide k6
      have H_k7 := hide k7
      have H_kN := hide kN
      have H_k9 := hide k9
      have H_c5 := hide c5
      have H_c6 := hide c6
      have H_kF := hide kF
      clear kB k6 k7 kN k9 c5 c6 kF
      subst z8_
      subst z
      clear h0 hd
      rw [if_pos (by rfl)]
      have v1 := (unhide HS).bel (unhide H_kB)
      have q0 := v1.cell (m := 0) rfl
      have q1 := v1.cell (m := 1) rfl
      have q2 := v1.cell (m := 2) rfl
      clear v1
      go_simp
      exact unhide hK _ _ ⟨true, u1, u2, u3, u4, u5, u6, u7, false, q, cap, M, rfl, rfl, unhide H_kB, unhide H_k6, unhide H_k7, unhide H_kN, (fun h => nomatch h), unhide H_c5, (fun h => ⟨rfl, (unhide H_c6 h).2.1, (unhide H_c6 h).2.2.1, (unhide H_c6 h).2.2.2⟩), (fun h => nomatch h)⟩
    · intro h0 hd K hK
      have z : u1 = false := h0
      have z8_ : u8 = false := by
        cases hu : u8 with
        | false => rfl
        | true => exact nomatch z.symm.trans ((kF hu).2.1)
      have H_kB := hide kB
      have H_k6 := hide k6
      have H_k7 := hide k7
      have H_kN := hide kN
      have H_k9 := hide k9
      have H_c5 := hide c5
      have H_c6 := hide c6
      have H_kF := hide kF
      clear kB k6 k7 kN k9 c5 c6 kF
      subst z8_
      subst z
      clear h0 hd
      rw [if_pos (by rfl)]
      have v1 := (unhide HP).bel (unhide H_kB)
      have q0 := v1.cell (m := 0) rfl
      have q1 := v1.cell (m := 1) rfl
      have q2 := v1.cell (m := 2) rfl
      clear v1
      go_simp
      exact unhide hK _ _ ⟨u0, true, u2, u3, u4, u5, u6, u7, false, q, cap, M, rfl, rfl, unhide H_kB, unhide H_k6, unhide H_k7, unhide H_kN, (fun h => nomatch h), unhide H_c5, (fun h => ⟨(unhide H_c6 h).1, rfl, (unhide H_c6 h).2.2.1, (unhide H_c6 h).2.2.2⟩), (fun h => nomatch h)⟩
    · intro h0 hd K hK
      have z : u2 = false := h0
      have z8_ : u8 = false := by
        cases hu : u8 with
        | false => rfl
        | true => exact nomatch z.symm.trans ((kF hu).2.2.1)
      have H_kB := hide kB
      have H_k6 := hide k6
      have H_k7 := hide k7
      have H_kN := hide kN
      have H_k9 := hide k9
      have H_c5 := hide c5
      have H_c6 := hide c6
      have H_kF := hide kF
      clear kB k6 k7 kN k9 c5 c6 kF
      subst z8_
      subst z
      clear h0 hd
      rw [if_pos (by rfl)]
      go_simp
      exact unhide hK _ _ ⟨u0, u1, true, u3, u4, u5, u6, u7, false, q, cap, M, rfl, rfl, unhide H_kB, unhide H_k6, unhide H_k7, unhide H_kN, (fun h => nomatch h), unhide H_c5, (fun h => ⟨(unhide H_c6 h).1, (unhide H_c6 h).2.1, rfl, (unhide H_c6 h).2.2.2⟩), (fun h => nomatch h)⟩
    · intro h0 hd K hK
      have z : u3 = false := h0
      have z8_ : u8 = false := by
        cases hu : u8 with
        | false => rfl
        | true => exact nomatch z.symm.trans ((kF hu).2.2.2.1)
      have H_kB := hide kB
      have H_k6 := hide k6
      have H_k7 := hide k7
      have H_kN := hide kN
      have H_k9 := hide k9
      have H_c5 := hide c5
      have H_c6 := hide c6
      have H_kF := hide kF
      clear kB k6 k7 kN k9 c5 c6 kF
      subst z8_
      subst z
      clear h0 hd
      rw [if_pos (by rfl)]
      go_simp
      exact unhide hK _ _ ⟨u0, u1, u2, true, u4, u5, u6, u7, false, q, cap, M, rfl, rfl, unhide H_kB, unhide H_k6, unhide H_k7, unhide H_kN, (fun h => nomatch h), (fun h => ⟨rfl, (unhide H_c5 h).2⟩), unhide H_c6, (fun h => nomatch h)⟩
    · intro h0 hd K hK
      have z : u4 = false := h0
      have z8_ : u8 = false := by
        cases hu : u8 with
        | false => rfl
        | true => exact nomatch z.symm.trans ((kF hu).2.2.2.2.1)
      have H_kB := hide kB
      have H_k6 := hide k6
      have H_k7 := hide k7
      have H_kN := hide kN
      have H_k9 := hide k9
      have H_c5 := hide c5
      have H_c6 := hide c6
      have H_kF := hide kF
      clear kB k6 k7 kN k9 c5 c6 kF
      subst z8_
      subst z
      clear h0 hd
      rw [if_pos (by rfl)]
      go_simp
      exact unhide hK _ _ ⟨u0, u1, u2, u3, true, u5, u6, u7, false, q, cap, M, rfl, rfl, unhide H_kB, unhide H_k6, unhide H_k7, unhide H_kN, (fun h => nomatch h), (fun h => ⟨(unhide H_c5 h).1, rfl⟩), unhide H_c6, (fun h => nomatch h)⟩
    · intro h0 hd K hK
      have z : u5 = false := h0
      have z8_ : u8 = false := by
        cases hu : u8 with
        | false => rfl
        | true => exact nomatch z.symm.trans ((kF hu).2.2.2.2.2.1)
      have zd : u3 = true ∧ u4 = true := by
        simp [Region.binds] at hd
        simp [hd]
      have H_kB := hide kB
      have H_k6 := hide k6
      have H_k7 := hide k7
      have H_kN := hide kN
      have H_k9 := hide k9
      have H_c5 := hide c5
      have H_c6 := hide c6
      have H_kF := hide kF
      clear kB k6 k7 kN k9 c5 c6 kF
      obtain ⟨rfl, rfl⟩ := zd
      subst z8_
      subst z
      clear h0 hd
      rw [if_pos (by rfl)]
      have o1 : (0 : Int) ≤ (kk : Int) := Int.natCast_nonneg _
      have o2 : (kk : Int) ≤ (cm : Int) := by omega
      have o3 : kk ≤ cm := by omega
      go_simp
      exact unhide hK _ _ ⟨u0, u1, u2, true, true, true, u6, u7, false, q, cap, M, rfl, rfl, unhide H_kB, unhide H_k6, unhide H_k7, unhide H_kN, (fun h => nomatch h), (fun _ => ⟨rfl, rfl⟩), (fun h => ⟨(unhide H_c6 h).1, (unhide H_c6 h).2.1, (unhide H_c6 h).2.2.1, rfl⟩), (fun h => nomatch h)⟩
    · intro h0 hd K hK
      have z : u6 = false := h0
      have z8_ : u8 = false := by
        cases hu : u8 with
        | false => rfl
        | true => exact nomatch z.symm.trans ((kF hu).2.2.2.2.2.2.1)
      have zd : u0 = true ∧ u1 = true ∧ u2 = true ∧ u5 = true := by
        simp [Region.binds] at hd
        simp [hd]
      have H_kB := hide kB
      have H_k6 := hide k6
      have H_k7 := hide k7
      have H_kN := hide kN
      have H_k9 := hide k9
      have H_c5 := hide c5
      have H_c6 := hide c6
      have H_kF := hide kF
      clear kB k6 k7 kN k9 c5 c6 kF
      obtain ⟨rfl, rfl, rfl, rfl⟩ := zd
      subst z8_
      subst z
      clear h0 hd
      rw [if_pos (by rfl)]
      go_simp
      refine (unhide HC11 W (unhide H_kB)).mono ?_
      rintro e w8 ⟨⟨q', cap', rfl, hro⟩, hb8⟩
      exact unhide hK _ _ ⟨true, true, true, u3, u4, true, true, u7, false, q', cap', M, rfl, rfl, (bc (unhide H_kB) hb8), (fun _ => hro.mono (unhide H_kB).size), (fun h => ⟨(unhide H_k7 h).1, Nat.lt_of_lt_of_le (unhide H_k7 h).2.1 hb8.size, fun h2 => ((unhide H_k7 h).2.2 h2).bel hb8⟩), (fun _ h => by have h1 := (unhide H_k7 h).2.1; have h2 := hro.ge; omega), (fun h => nomatch h), unhide H_c5, (fun _ => ⟨rfl, rfl, rfl, rfl⟩), (fun h => nomatch h)⟩
    · intro h0 hd K hK
      have z : u7 = false := h0
      have z8_ : u8 = false := by
        cases hu : u8 with
        | false => rfl
        | true => exact nomatch z.symm.trans ((kF hu).2.2.2.2.2.2.2)
      have H_kB := hide kB
      have H_k6 := hide k6
      have H_k7 := hide k7
      have H_kN := hide kN
      have H_k9 := hide k9
      have H_c5 := hide c5
      have H_c6 := hide c6
      have H_kF := hide kF
      clear kB k6 k7 kN k9 c5 c6 kF
      subst z8_
      subst z
      clear h0 hd
      rw [if_pos (by rfl)]
      go_simp
      exact unhide hK _ _ ⟨u0, u1, u2, u3, u4, u5, u6, true, false, q, cap, W.heap.size, rfl, rfl, (bc (unhide H_kB) (ba (Below.refl _ _) _)), (fun h => (unhide H_k6 h).below (ba (Below.refl _ _) _)), (fun _ => ⟨(unhide H_kB).size, by simp, fun _ => vb_new W 31 [.int .i64 0, .int .i64 0, .int .i64 0, .int .i64 0, .slice none 0 0, .int .i64 0, .int .i64 0, .int .i64 0] _ rfl⟩), (fun h _ => by have h2 := (World.ownsRow.lt (unhide H_k6 h) q rfl).2; omega), (fun h => nomatch h), unhide H_c5, unhide H_c6, (fun h => nomatch h)⟩
    · intro h0 hd K hK
      have z : u8 = false := h0
      have zd : u6 = true ∧ u7 = true ∧ u0 = true ∧ u1 = true ∧ u2 = true ∧ u3 = true ∧ u4 = true ∧ u5 = true := by
        simp [Region.binds] at hd
        first | (simp [hd]; done) | (have e6 := c6 (by simp [hd]); have e5 := c5 e6.2.2.2; simp [hd, e6, e5])
      have H_kB := hide kB
      have H_k6 := hide k6
      have H_k7 := hide k7
      have H_kN := hide kN
      have H_k9 := hide k9
      have H_c5 := hide c5
      have H_c6 := hide c6
      have H_kF := hide kF
      clear kB k6 k7 kN k9 c5 c6 kF
      obtain ⟨rfl, rfl, rfl, rfl, rfl, rfl, rfl, rfl⟩ := zd
      subst z
      clear h0 hd
      rw [if_pos (by rfl)]
      have hq := unhide H_kN rfl rfl
      have vz := (unhide H_k7 rfl).2.2 rfl
      have fz := vz.frozen
      have q0 := vz.cell (m := 0) rfl
      have q1 := vz.cell (m := 1) rfl
      have q2 := vz.cell (m := 2) rfl
      have q3 := vz.cell (m := 3) rfl
      have q4 := vz.cell (m := 4) rfl
      have q5 := vz.cell (m := 5) rfl
      have q6 := vz.cell (m := 6) rfl
      have q7 := vz.cell (m := 7) rfl
      have HVZ := hide vz
      clear vz
      go_simp
      exact unhide hK _ _ ⟨true, true, true, true, true, true, true, true, true, q, cap, M, rfl, rfl, (Below.setCell (Below.setCell (Below.setCell (Below.setCell (Below.setCell (Below.setCell (Below.setCell (Below.setCell (unhide H_kB) (unhide H_k7 rfl).1 _) (unhide H_k7 rfl).1 _) (unhide H_k7 rfl).1 _) (unhide H_k7 rfl).1 _) (unhide H_k7 rfl).1 _) (unhide H_k7 rfl).1 _) (unhide H_k7 rfl).1 _) (unhide H_k7 rfl).1 _), (fun _ => (unhide H_k6 rfl).kept' (fun y hy => by simp only [Value.ownBlock, Option.some.injEq] at hy; subst hy; exact (Below.heap_setCell _ _ _ _ hq).trans ( (Below.heap_setCell _ _ _ _ hq).trans ( (Below.heap_setCell _ _ _ _ hq).trans ( (Below.heap_setCell _ _ _ _ hq).trans ( (Below.heap_setCell _ _ _ _ hq).trans ( (Below.heap_setCell _ _ _ _ hq).trans ( (Below.heap_setCell _ _ _ _ hq).trans (Below.heap_setCell _ _ _ _ hq))))))))), (fun _ => ⟨(unhide H_k7 rfl).1, by simpa [World.setCell] using (unhide H_k7 rfl).2.1, (fun h => nomatch h)⟩), (fun _ _ => hq), (fun _ => ((((((((unhide HVZ).set 0 _).set 1 _).set 2 _).set 3 _).set 4 _).set 5 _).set 6 _).set 7 _), (fun _ => ⟨rfl, rfl⟩), (fun _ => ⟨rfl, rfl, rfl, rfl⟩), (fun _ => ⟨rfl, rfl, rfl, rfl, rfl, rfl, rfl, rfl⟩)⟩
  case hend =>
    rintro Lb A W ⟨u0, u1, u2, u3, u4, u5, u6, u7, u8, q, cap, M, rfl, rfl, kB, k6, k7, kN, k9, c5, c6, kF⟩ hL
    have hl : u0 = true ∧ u1 = true ∧ u2 = true ∧ u3 = true ∧ u4 = true ∧ u5 = true ∧ u6 = true ∧ u7 = true ∧ u8 = true := by
      have h2 := congrArg Array.toList hL
      simpa [List.replicate] using h2
    obtain ⟨rfl, rfl, rfl, rfl, rfl, rfl, rfl, rfl, rfl⟩ := hl
    exact unhide HQ _ _ _ _ _ _ _ q cap M W kB (k6 rfl) (k7 rfl).1 (k9 rfl)

set_option maxHeartbeats 4000000 in
set_option maxRecDepth 100000 in
theorem mm14 {s0 s1 s2 s3 s4 s9 s10 s12 s13 s14 s15 s16 s17 s18 s19 s20 s21 s22 s23 s24 s25 s26 s27 s28 s29 s30 s31 s32 s33 s34 s35 s36 s37 s38 s39 s40 s41 s42 s43 s44 s45 s46 s47 s48 s49 s50 s51 s52 s53 s54 s55 s56 s57 s58 s59 s60 s61 s62 s63 s64 s65 s66 s67 s68 s69 s70 s71 s72 s73 s74 s75 s76 s77 s78 s79 s80 s81 s82 s83 s84 s85 s86 s87 s88 s89 s90 s91 s92 s93 s94 s95 s96 s97 s98 s99 s100 s101 s102 s103 s104 s105 s106 s107 s108 s109 s110 s111 s112 s113 s114 s115 s116 s117 s118 s119 s120 s121 s122 s123 s124 s125 s126 s127 s128 s129 s130 s131 s132 s133 s134 s135 s136 s137 s138 s139 s140 s141 s142 s143 s144 s145 s146 s147 s148 s149 s150 s151 s152 s153 s154 s155 s156 s157 s158 s159 s160 s161 s162 s163 s164 s165 s166 s167 s168 s169 s170 s171 s172 s173 s174 s175 s176 s177 s178 s179 s180 s181 s182 s183 s184 s185 s186 s187 s188 s189 s190 s191 s192 s193 s194 s195 s196 s197 s198 s199 s200 s201 s202 s203 s204 s205 s206 s207 s208 s209 s210 s211 s212 s213 s214 s215 s216 s217 s218 s219 s220 s221 s222 s223 s224 s225 s226 s227 s228 s229 s230 s231 s232 s233 s234 s235 s236 s237 s238 s239 s240 s241 s242 s243 s244 s245 s246 s247 s248 s249 s250 s251 : Value} {Wd Hd r gs pos cs g po c n qm m cm kk b5 b6 : Nat} {s : Ml} {V : World} {K_ : Act → World → Prop} (hkm : kk ≤ m) (hmc : m ≤ cm) (hcm : cm ≤ 9223372036854775807)
    (HS : Hid (vb V b5 25 [.int .i64 (Wd : Int), .int .i64 (Hd : Int), .slice (some ⟨gs, pos, none⟩) n cs])) (HP : Hid (vb V b6 25 [.int .i64 (Wd : Int), .int .i64 (Hd : Int), .slice (some ⟨g, po, none⟩) n c]))
    (HC11 : Hid (∀ X, Below V.heap.size V X → Calls Try.prog 11 #[.agg #[.int .i64 (Wd : Int), .int .i64 (Hd : Int), .slice (some ⟨gs, pos, none⟩) n cs], .agg #[.int .i64 (Wd : Int), .int .i64 (Hd : Int), .slice (some ⟨g, po, none⟩) n c], .int .i64 (r : Int), .slice (some ⟨qm, 0, none⟩) kk cm] X fun e w' => (∃ q cap, e = .returned (.agg #[.int .i64 0, .int .i64 0, .int .i64 (Wd : Int), .int .i64 (Hd : Int), .slice (some ⟨q, 0, none⟩) n cap, .int .i64 s.cut, .int .i64 s.air, .int .i64 s.dep]) ∧ Row w' X.heap.size 3 1 (.slice (some ⟨q, 0, none⟩) n cap) n s.T) ∧ Below X.heap.size X w'))
    (hQ : ∀ (y94 y95 y96 y97 y98 y99 y100 : Value) (q cap M : Nat) (W' : World), Below V.heap.size V W' → Row W' V.heap.size 3 1 (.slice (some ⟨q, 0, none⟩) n cap) n s.T → V.heap.size ≤ M → vb W' M 31 [.int .i64 0, .int .i64 0, .int .i64 (Wd : Int), .int .i64 (Hd : Int), .slice (some ⟨q, 0, none⟩) n cap, .int .i64 s.cut, .int .i64 s.air, .int .i64 s.dep] → K_ { tmps := #[s0, s1, s2, s3, s4, .pointer (some ⟨b5, 0, none⟩), .pointer (some ⟨b6, 0, none⟩), .int .i64 ((r : Int)), .slice (some ⟨qm, 0, none⟩) m cm, s9, s10, .int .i64 ((kk : Int)), s12, s13, .pointer (some ⟨M, 0, none⟩), s15, s16, s17, s18, s19, s20, s21, s22, s23, s24, s25, s26, s27, s28, s29, s30, s31, s32, s33, s34, s35, s36, s37, s38, s39, s40, s41, s42, s43, s44, s45, s46, s47, s48, s49, s50, s51, s52, s53, s54, s55, s56, s57, s58, s59, s60, s61, s62, s63, s64, s65, s66, s67, s68, s69, s70, s71, s72, s73, s74, s75, s76, s77, s78, s79, s80, s81, s82, s83, s84, s85, s86, s87, s88, s89, s90, s91, s92, s93, y94, y95, y96, y97, y98, y99, y100, s101, s102, s103, s104, s105, s106, s107, s108, s109, s110, s111, s112, s113, s114, s115, s116, s117, s118, s119, s120, s121, s122, s123, s124, s125, s126, s127, s128, s129, s130, s131, s132, s133, s134, s135, s136, s137, s138, s139, s140, s141, s142, s143, s144, s145, s146, s147, s148, s149, s150, s151, s152, s153, s154, s155, s156, s157, s158, s159, s160, s161, s162, s163, s164, s165, s166, s167, s168, s169, s170, s171, s172, s173, s174, s175, s176, s177, s178, s179, s180, s181, s182, s183, s184, s185, s186, s187, s188, s189, s190, s191, s192, s193, s194, s195, s196, s197, s198, s199, s200, s201, s202, s203, s204, s205, s206, s207, s208, s209, s210, s211, s212, s213, s214, s215, s216, s217, s218, s219, s220, s221, s222, s223, s224, s225, s226, s227, s228, s229, s230, s231, s232, s233, s234, s235, s236, s237, s238, s239, s240, s241, s242, s243, s244, s245, s246, s247, s248, s249, s250, s251], defers := [] } W') :
    Go.Code.wp Try.prog (reg3 14) (Only K_) { tmps := #[s0, s1, s2, s3, s4, .pointer (some ⟨b5, 0, none⟩), .pointer (some ⟨b6, 0, none⟩), .int .i64 ((r : Int)), .slice (some ⟨qm, 0, none⟩) m cm, s9, s10, .int .i64 ((kk : Int)), s12, s13, s14, s15, s16, s17, s18, s19, s20, s21, s22, s23, s24, s25, s26, s27, s28, s29, s30, s31, s32, s33, s34, s35, s36, s37, s38, s39, s40, s41, s42, s43, s44, s45, s46, s47, s48, s49, s50, s51, s52, s53, s54, s55, s56, s57, s58, s59, s60, s61, s62, s63, s64, s65, s66, s67, s68, s69, s70, s71, s72, s73, s74, s75, s76, s77, s78, s79, s80, s81, s82, s83, s84, s85, s86, s87, s88, s89, s90, s91, s92, s93, s94, s95, s96, s97, s98, s99, s100, s101, s102, s103, s104, s105, s106, s107, s108, s109, s110, s111, s112, s113, s114, s115, s116, s117, s118, s119, s120, s121, s122, s123, s124, s125, s126, s127, s128, s129, s130, s131, s132, s133, s134, s135, s136, s137, s138, s139, s140, s141, s142, s143, s144, s145, s146, s147, s148, s149, s150, s151, s152, s153, s154, s155, s156, s157, s158, s159, s160, s161, s162, s163, s164, s165, s166, s167, s168, s169, s170, s171, s172, s173, s174, s175, s176, s177, s178, s179, s180, s181, s182, s183, s184, s185, s186, s187, s188, s189, s190, s191, s192, s193, s194, s195, s196, s197, s198, s199, s200, s201, s202, s203, s204, s205, s206, s207, s208, s209, s210, s211, s212, s213, s214, s215, s216, s217, s218, s219, s220, s221, s222, s223, s224, s225, s226, s227, s228, s229, s230, s231, s232, s233, s234, s235, s236, s237, s238, s239, s240, s241, s242, s243, s244, s245, s246, s247, s248, s249, s250, s251], defers := [] } V := by
  have HQ := hide hQ
  clear hQ
  conv => arg 2; whnf
  refine wp_region_inv2 (fun Lb A W => ∃ (u0 u1 u2 u3 u4 u5 u6 u7 u8 : Bool) (q : Nat) (cap : Nat) (M : Nat), Lb = #[u0, u1, u2, u3, u4, u5, u6, u7, u8] ∧ A = ({ tmps := #[s0, s1, s2, s3, s4, .pointer (some ⟨b5, 0, none⟩), .pointer (some ⟨b6, 0, none⟩), .int .i64 ((r : Int)), .slice (some ⟨qm, 0, none⟩) m cm, s9, s10, .int .i64 ((kk : Int)), s12, s13, (bif u7 then .pointer (some ⟨M, 0, none⟩) else s14), s15, s16, s17, s18, s19, s20, s21, s22, s23, s24, s25, s26, s27, s28, s29, s30, s31, s32, s33, s34, s35, s36, s37, s38, s39, s40, s41, s42, s43, s44, s45, s46, s47, s48, s49, s50, s51, s52, s53, s54, s55, s56, s57, s58, s59, s60, s61, s62, s63, s64, s65, s66, s67, s68, s69, s70, s71, s72, s73, s74, s75, s76, s77, s78, s79, s80, s81, s82, s83, s84, s85, s86, s87, s88, s89, s90, s91, s92, s93, (bif u0 then .agg #[.int .i64 (Wd : Int), .int .i64 (Hd : Int), .slice (some ⟨gs, pos, none⟩) n cs] else s94), (bif u1 then .agg #[.int .i64 (Wd : Int), .int .i64 (Hd : Int), .slice (some ⟨g, po, none⟩) n c] else s95), (bif u2 then .int .i64 ((r : Int)) else s96), (bif u3 then .slice (some ⟨qm, 0, none⟩) m cm else s97), (bif u4 then .int .i64 ((kk : Int)) else s98), (bif u5 then .slice (some ⟨qm, 0, none⟩) kk cm else s99), (bif u6 then .agg #[.int .i64 0, .int .i64 0, .int .i64 (Wd : Int), .int .i64 (Hd : Int), .slice (some ⟨q, 0, none⟩) n cap, .int .i64 s.cut, .int .i64 s.air, .int .i64 s.dep] else s100), s101, s102, s103, s104, s105, s106, s107, s108, s109, s110, s111, s112, s113, s114, s115, s116, s117, s118, s119, s120, s121, s122, s123, s124, s125, s126, s127, s128, s129, s130, s131, s132, s133, s134, s135, s136, s137, s138, s139, s140, s141, s142, s143, s144, s145, s146, s147, s148, s149, s150, s151, s152, s153, s154, s155, s156, s157, s158, s159, s160, s161, s162, s163, s164, s165, s166, s167, s168, s169, s170, s171, s172, s173, s174, s175, s176, s177, s178, s179, s180, s181, s182, s183, s184, s185, s186, s187, s188, s189, s190, s191, s192, s193, s194, s195, s196, s197, s198, s199, s200, s201, s202, s203, s204, s205, s206, s207, s208, s209, s210, s211, s212, s213, s214, s215, s216, s217, s218, s219, s220, s221, s222, s223, s224, s225, s226, s227, s228, s229, s230, s231, s232, s233, s234, s235, s236, s237, s238, s239, s240, s241, s242, s243, s244, s245, s246, s247, s248, s249, s250, s251], defers := [] } : Act) ∧ Below V.heap.size V W ∧ (u6 = true → Row W V.heap.size 3 1 (.slice (some ⟨q, 0, none⟩) n cap) n s.T) ∧ (u7 = true → V.heap.size ≤ M ∧ M < W.heap.size ∧ (u8 = false → vb W M 31 [.int .i64 0, .int .i64 0, .int .i64 0, .int .i64 0, .slice none 0 0, .int .i64 0, .int .i64 0, .int .i64 0])) ∧ (u6 = true → u7 = true → q ≠ M) ∧ (u8 = true → vb W M 31 [.int .i64 0, .int .i64 0, .int .i64 (Wd : Int), .int .i64 (Hd : Int), .slice (some ⟨q, 0, none⟩) n cap, .int .i64 s.cut, .int .i64 s.air, .int .i64 s.dep]) ∧ (u5 = true → u3 = true ∧ u4 = true) ∧ (u6 = true → u0 = true ∧ u1 = true ∧ u2 = true ∧ u5 = true) ∧ (u8 = true → u0 = true ∧ u1 = true ∧ u2 = true ∧ u3 = true ∧ u4 = true ∧ u5 = true ∧ u6 = true ∧ u7 = true)) (by kernel_rfl) (by kernel_rfl) ?h0 ?hstep ?hend
  case h0 =>
    exact ⟨false, false, false, false, false, false, false, false, false, 0, 0, 0, rfl, rfl, Below.drew (Below.refl _ _), (fun h => nomatch h), (fun h => nomatch h), (fun h => nomatch h), (fun h => nomatch h), (fun h => nomatch h), (fun h => nomatch h), (fun h => nomatch h)⟩
  case hstep =>
    rintro Lb A W ⟨u0, u1, u2, u3, u4, u5, u6, u7, u8, q, cap, M, rfl, rfl, kB, k6, k7, kN, k9, c5, c6, kF⟩
    refine ⟨?_, ?_, ?_, ?_, ?_, ?_, ?_, ?_, ?_, trivial⟩
    · intro h0 hd K hK
      have z : u0 = false := h0
      have z8_ : u8 = false := by
        cases hu : u8 with
        | false => rfl
        | true => exact nomatch z.symm.trans ((kF hu).1)
      have H_kB := hide kB
      have H_k6 := hide k6
      have H_k7 := hide k7
      have H_kN := hide kN
      have H_k9 := hide k9
      have H_c5 := hide c5
      have H_c6 := hide c6
      have H_kF := hide kF
      clear kB k6 k7 kN k9 c5 c6 kF
      subst z8_
      subst z
      clear h0 hd
      rw [if_pos (by rfl)]
      have v1 := (unhide HS).bel (unhide H_kB)
      have q0 := v1.cell (m := 0) rfl
      have q1 := v1.cell (m := 1) rfl
      have q2 := v1.cell (m := 2) rfl
      clear v1
      go_simp
      exact unhide hK _ _ ⟨true, u1, u2, u3, u4, u5, u6, u7, false, q, cap, M, rfl, rfl, unhide H_kB, unhide H_k6, unhide H_k7, unhide H_kN, (fun h => nomatch h), unhide H_c5, (fun h => ⟨rfl, (unhide H_c6 h).2.1, (unhide H_c6 h).2.2.1, (unhide H_c6 h).2.2.2⟩), (fun h => nomatch h)⟩
    · intro h0 hd K hK
      have z : u1 = false := h0
      have z8_ : u8 = false := by
        cases hu : u8 with
        | false => rfl
        | true => exact nomatch z.symm.trans ((kF hu).2.1)
      have H_kB := hide kB
      have H_k6 := hide k6
      have H_k7 := hide k7
      have H_kN := hide kN
      have H_k9 := hide k9
      have H_c5 := hide c5
      have H_c6 := hide c6
      have H_kF := hide kF
      clear kB k6 k7 kN k9 c5 c6 kF
      subst z8_
      subst z
      clear h0 hd
      rw [if_pos (by rfl)]
      have v1 := (unhide HP).bel (unhide H_kB)
      have q0 := v1.cell (m := 0) rfl
      have q1 := v1.cell (m := 1) rfl
      have q2 := v1.cell (m := 2) rfl
      clear v1
      go_simp
      exact unhide hK _ _ ⟨u0, true, u2, u3, u4, u5, u6, u7, false, q, cap, M, rfl, rfl, unhide H_kB, unhide H_k6, unhide H_k7, unhide H_kN, (fun h => nomatch h), unhide H_c5, (fun h => ⟨(unhide H_c6 h).1, rfl, (unhide H_c6 h).2.2.1, (unhide H_c6 h).2.2.2⟩), (fun h => nomatch h)⟩
    · intro h0 hd K hK
      have z : u2 = false := h0
      have z8_ : u8 = false := by
        cases hu : u8 with
        | false => rfl
        | true => exact nomatch z.symm.trans ((kF hu).2.2.1)
      have H_kB := hide kB
      have H_k6 := hide k6
      have H_k7 := hide k7
      have H_kN := hide kN
      have H_k9 := hide k9
      have H_c5 := hide c5
      have H_c6 := hide c6
      have H_kF := hide kF
      clear kB k6 k7 kN k9 c5 c6 kF
      subst z8_
      subst z
      clear h0 hd
      rw [if_pos (by rfl)]
      go_simp
      exact unhide hK _ _ ⟨u0, u1, true, u3, u4, u5, u6, u7, false, q, cap, M, rfl, rfl, unhide H_kB, unhide H_k6, unhide H_k7, unhide H_kN, (fun h => nomatch h), unhide H_c5, (fun h => ⟨(unhide H_c6 h).1, (unhide H_c6 h).2.1, rfl, (unhide H_c6 h).2.2.2⟩), (fun h => nomatch h)⟩
    · intro h0 hd K hK
      have z : u3 = false := h0
      have z8_ : u8 = false := by
        cases hu : u8 with
        | false => rfl
        | true => exact nomatch z.symm.trans ((kF hu).2.2.2.1)
      have H_kB := hide kB
      have H_k6 := hide k6
      have H_k7 := hide k7
      have H_kN := hide kN
      have H_k9 := hide k9
      have H_c5 := hide c5
      have H_c6 := hide c6
      have H_kF := hide kF
      clear kB k6 k7 kN k9 c5 c6 kF
      subst z8_
      subst z
      clear h0 hd
      rw [if_pos (by rfl)]
      go_simp
      exact unhide hK _ _ ⟨u0, u1, u2, true, u4, u5, u6, u7, false, q, cap, M, rfl, rfl, unhide H_kB, unhide H_k6, unhide H_k7, unhide H_kN, (fun h => nomatch h), (fun h => ⟨rfl, (unhide H_c5 h).2⟩), unhide H_c6, (fun h => nomatch h)⟩
    · intro h0 hd K hK
      have z : u4 = false := h0
      have z8_ : u8 = false := by
        cases hu : u8 with
        | false => rfl
        | true => exact nomatch z.symm.trans ((kF hu).2.2.2.2.1)
      have H_kB := hide kB
      have H_k6 := hide k6
      have H_k7 := hide k7
      have H_kN := hide kN
      have H_k9 := hide k9
      have H_c5 := hide c5
      have H_c6 := hide c6
      have H_kF := hide kF
      clear kB k6 k7 kN k9 c5 c6 kF
      subst z8_
      subst z
      clear h0 hd
      rw [if_pos (by rfl)]
      go_simp
      exact unhide hK _ _ ⟨u0, u1, u2, u3, true, u5, u6, u7, false, q, cap, M, rfl, rfl, unhide H_kB, unhide H_k6, unhide H_k7, unhide H_kN, (fun h => nomatch h), (fun h => ⟨(unhide H_c5 h).1, rfl⟩), unhide H_c6, (fun h => nomatch h)⟩
    · intro h0 hd K hK
      have z : u5 = false := h0
      have z8_ : u8 = false := by
        cases hu : u8 with
        | false => rfl
        | true => exact nomatch z.symm.trans ((kF hu).2.2.2.2.2.1)
      have zd : u3 = true ∧ u4 = true := by
        simp [Region.binds] at hd
        simp [hd]
      have H_kB := hide kB
      have H_k6 := hide k6
      have H_k7 := hide k7
      have H_kN := hide kN
      have H_k9 := hide k9
      have H_c5 := hide c5
      have H_c6 := hide c6
      have H_kF := hide kF
      clear kB k6 k7 kN k9 c5 c6 kF
      obtain ⟨rfl, rfl⟩ := zd
      subst z8_
      subst z
      clear h0 hd
      rw [if_pos (by rfl)]
      have o1 : (0 : Int) ≤ (kk : Int) := Int.natCast_nonneg _
      have o2 : (kk : Int) ≤ (cm : Int) := by omega
      have o3 : kk ≤ cm := by omega
      go_simp
      exact unhide hK _ _ ⟨u0, u1, u2, true, true, true, u6, u7, false, q, cap, M, rfl, rfl, unhide H_kB, unhide H_k6, unhide H_k7, unhide H_kN, (fun h => nomatch h), (fun _ => ⟨rfl, rfl⟩), (fun h => ⟨(unhide H_c6 h).1, (unhide H_c6 h).2.1, (unhide H_c6 h).2.2.1, rfl⟩), (fun h => nomatch h)⟩
    · intro h0 hd K hK
      have z : u6 = false := h0
      have z8_ : u8 = false := by
        cases hu : u8 with
        | false => rfl
        | true => exact nomatch z.symm.trans ((kF hu).2.2.2.2.2.2.1)
      have zd : u0 = true ∧ u1 = true ∧ u2 = true ∧ u5 = true := by
        simp [Region.binds] at hd
        simp [hd]
      have H_kB := hide kB
      have H_k6 := hide k6
      have H_k7 := hide k7
      have H_kN := hide kN
      have H_k9 := hide k9
      have H_c5 := hide c5
      have H_c6 := hide c6
      have H_kF := hide kF
      clear kB k6 k7 kN k9 c5 c6 kF
      obtain ⟨rfl, rfl, rfl, rfl⟩ := zd
      subst z8_
      subst z
      clear h0 hd
      rw [if_pos (by rfl)]
      go_simp
      refine (unhide HC11 W (unhide H_kB)).mono ?_
      rintro e w8 ⟨⟨q', cap', rfl, hro⟩, hb8⟩
      exact unhide hK _ _ ⟨true, true, true, u3, u4, true, true, u7, false, q', cap', M, rfl, rfl, (bc (unhide H_kB) hb8), (fun _ => hro.mono (unhide H_kB).size), (fun h => ⟨(unhide H_k7 h).1, Nat.lt_of_lt_of_le (unhide H_k7 h).2.1 hb8.size, fun h2 => ((unhide H_k7 h).2.2 h2).bel hb8⟩), (fun _ h => by have h1 := (unhide H_k7 h).2.1; have h2 := hro.ge; omega), (fun h => nomatch h), unhide H_c5, (fun _ => ⟨rfl, rfl, rfl, rfl⟩), (fun h => nomatch h)⟩
    · intro h0 hd K hK
      have z : u7 = false := h0
      have z8_ : u8 = false := by
        cases hu : u8 with
        | false => rfl
        | true => exact nomatch z.symm.trans ((kF hu).2.2.2.2.2.2.2)
      have H_kB := hide kB
      have H_k6 := hide k6
      have H_k7 := hide k7
      have H_kN := hide kN
      have H_k9 := hide k9
      have H_c5 := hide c5
      have H_c6 := hide c6
      have H_kF := hide kF
      clear kB k6 k7 kN k9 c5 c6 kF
      subst z8_
      subst z
      clear h0 hd
      rw [if_pos (by rfl)]
      go_simp
      exact unhide hK _ _ ⟨u0, u1, u2, u3, u4, u5, u6, true, false, q, cap, W.heap.size, rfl, rfl, (bc (unhide H_kB) (ba (Below.refl _ _) _)), (fun h => (unhide H_k6 h).below (ba (Below.refl _ _) _)), (fun _ => ⟨(unhide H_kB).size, by simp, fun _ => vb_new W 31 [.int .i64 0, .int .i64 0, .int .i64 0, .int .i64 0, .slice none 0 0, .int .i64 0, .int .i64 0, .int .i64 0] _ rfl⟩), (fun h _ => by have h2 := (World.ownsRow.lt (unhide H_k6 h) q rfl).2; omega), (fun h => nomatch h), unhide H_c5, unhide H_c6, (fun h => nomatch h)⟩
    · intro h0 hd K hK
      have z : u8 = false := h0
      have zd : u6 = true ∧ u7 = true ∧ u0 = true ∧ u1 = true ∧ u2 = true ∧ u3 = true ∧ u4 = true ∧ u5 = true := by
        simp [Region.binds] at hd
        first | (simp [hd]; done) | (have e6 := c6 (by simp [hd]); have e5 := c5 e6.2.2.2; simp [hd, e6, e5])
      have H_kB := hide kB
      have H_k6 := hide k6
      have H_k7 := hide k7
      have H_kN := hide kN
      have H_k9 := hide k9
      have H_c5 := hide c5
      have H_c6 := hide c6
      have H_kF := hide kF
      clear kB k6 k7 kN k9 c5 c6 kF
      obtain ⟨rfl, rfl, rfl, rfl, rfl, rfl, rfl, rfl⟩ := zd
      subst z
      clear h0 hd
      rw [if_pos (by rfl)]
      have hq := unhide H_kN rfl rfl
      have vz := (unhide H_k7 rfl).2.2 rfl
      have fz := vz.frozen
      have q0 := vz.cell (m := 0) rfl
      have q1 := vz.cell (m := 1) rfl
      have q2 := vz.cell (m := 2) rfl
      have q3 := vz.cell (m := 3) rfl
      have q4 := vz.cell (m := 4) rfl
      have q5 := vz.cell (m := 5) rfl
      have q6 := vz.cell (m := 6) rfl
      have q7 := vz.cell (m := 7) rfl
      have HVZ := hide vz
      clear vz
      go_simp
      exact unhide hK _ _ ⟨true, true, true, true, true, true, true, true, true, q, cap, M, rfl, rfl, (Below.setCell (Below.setCell (Below.setCell (Below.setCell (Below.setCell (Below.setCell (Below.setCell (Below.setCell (unhide H_kB) (unhide H_k7 rfl).1 _) (unhide H_k7 rfl).1 _) (unhide H_k7 rfl).1 _) (unhide H_k7 rfl).1 _) (unhide H_k7 rfl).1 _) (unhide H_k7 rfl).1 _) (unhide H_k7 rfl).1 _) (unhide H_k7 rfl).1 _), (fun _ => (unhide H_k6 rfl).kept' (fun y hy => by simp only [Value.ownBlock, Option.some.injEq] at hy; subst hy; exact (Below.heap_setCell _ _ _ _ hq).trans ( (Below.heap_setCell _ _ _ _ hq).trans ( (Below.heap_setCell _ _ _ _ hq).trans ( (Below.heap_setCell _ _ _ _ hq).trans ( (Below.heap_setCell _ _ _ _ hq).trans ( (Below.heap_setCell _ _ _ _ hq).trans ( (Below.heap_setCell _ _ _ _ hq).trans (Below.heap_setCell _ _ _ _ hq))))))))), (fun _ => ⟨(unhide H_k7 rfl).1, by simpa [World.setCell] using (unhide H_k7 rfl).2.1, (fun h => nomatch h)⟩), (fun _ _ => hq), (fun _ => ((((((((unhide HVZ).set 0 _).set 1 _).set 2 _).set 3 _).set 4 _).set 5 _).set 6 _).set 7 _), (fun _ => ⟨rfl, rfl⟩), (fun _ => ⟨rfl, rfl, rfl, rfl⟩), (fun _ => ⟨rfl, rfl, rfl, rfl, rfl, rfl, rfl, rfl⟩)⟩
  case hend =>
    rintro Lb A W ⟨u0, u1, u2, u3, u4, u5, u6, u7, u8, q, cap, M, rfl, rfl, kB, k6, k7, kN, k9, c5, c6, kF⟩ hL
    have hl : u0 = true ∧ u1 = true ∧ u2 = true ∧ u3 = true ∧ u4 = true ∧ u5 = true ∧ u6 = true ∧ u7 = true ∧ u8 = true := by
      have h2 := congrArg Array.toList hL
      simpa [List.replicate] using h2
    obtain ⟨rfl, rfl, rfl, rfl, rfl, rfl, rfl, rfl, rfl⟩ := hl
    exact unhide HQ _ _ _ _ _ _ _ q cap M W kB (k6 rfl) (k7 rfl).1 (k9 rfl)

end Go.Proofs.Ytbjljofgpbecbaa

namespace Go.Proofs.Ytbjljofgpbecbaa
open Go.ChangeShapes Go.WideShapes Go.ChangeAt Go.RowKit
set_option linter.unusedVariables false
set_option linter.unusedSimpArgs false

noncomputable def reg3b (id : Nat) : Go.Code := match Try.f3.body with | some c => (regOf id c).getD .skip | none => .skip
theorem own_drew {w : World} {B t k n : Nat} {v : Value} {L : List Value} (h : w.ownsRow B t k v n L) : w.drew.ownsRow B t k v n L := h
theorem own_slice {w : World} {B t k n : Nat} {v : Value} {L : List Value} (h : w.ownsRow B t k v n L) : ∃ u c, v = .slice u n c := by
  rcases h.2 with ⟨h1, h2⟩ | ⟨q, cap, cur, hv, _⟩
  · exact ⟨none, 0, by rw [h1, h2]⟩
  · exact ⟨_, cap, hv⟩
theorem cells_at {W : World} {p t : Nat} {L : List Value} (h : W.heap[p]? = some (.cells L.toArray t)) : ∀ (j : Nat) (u : Value), L[j]? = some u → W.cell? ((⟨p, 0, none⟩ : Addr).add j) = some u := by
  intro j u hj
  rw [add_none, Nat.zero_add]
  simp only [World.cell?]
  rw [h]
  simpa using hj
set_option maxHeartbeats 4000000 in
set_option maxRecDepth 100000 in
theorem mm28 {s0 s1 s2 s3 s4 s5 s6 s7 s9 s10 s11 s12 s13 s14 s15 s16 s19 s20 s21 s22 s23 s24 s25 s26 s27 s28 s29 s30 s31 s32 s33 s34 s35 s36 s37 s38 s39 s40 s41 s42 s43 s44 s45 s46 s47 s48 s49 s50 s51 s52 s53 s54 s55 s56 s57 s58 s59 s60 s61 s62 s63 s64 s65 s66 s67 s68 s69 s70 s71 s72 s73 s74 s75 s76 s77 s78 s79 s80 s81 s82 s83 s84 s85 s86 s87 s88 s89 s90 s91 s92 s93 s94 s95 s96 s97 s98 s99 s100 s101 s102 s103 s104 s105 s106 s107 s108 s109 s110 s111 s112 s113 s114 s115 s116 s117 s118 s119 s120 s121 s122 s123 s124 s125 s126 s127 s128 s129 s130 s131 s132 s133 s134 s135 s136 s137 s138 s139 s140 s141 s142 s143 s144 s145 s146 s147 s148 s149 s150 s151 s152 s153 s154 s155 s156 s157 s158 s159 s160 s161 s162 s163 s164 s165 s166 s167 s168 s169 s170 s171 s172 s173 s174 s175 s176 s177 s178 s179 s180 s181 s182 s183 s184 s185 s186 s187 s188 s189 s190 s191 s192 s193 s194 s195 s196 s197 s198 s199 s200 s201 s202 s203 s204 s205 s206 s207 s208 s209 s210 s211 s212 s213 s214 s215 s216 s217 s218 s219 s220 s221 s222 s223 s224 s225 s226 s227 s228 s229 s230 s231 s232 s233 s234 s235 s236 s237 s238 s239 s240 s241 s242 s243 s244 s245 s246 s247 s248 s249 s250 s251 : Value} {qm m cm l c j Bs : Nat} {u : Option Addr} {mf : Bool} {mx my mz : Int} {ms0 : List Mve} {V : World} {K_ : Act → World → Prop} (hj : j < m) (hl : l ≤ 1000) (hqB : qm < Bs) (hBV : Bs ≤ V.heap.size)
    (HC0 : Hid (V.cell? ⟨qm, j * 4, none⟩ = some (.bool mf))) (HC1 : Hid (V.cell? ⟨qm, j * 4 + 1, none⟩ = some (.int .i64 mx))) (HC2 : Hid (V.cell? ⟨qm, j * 4 + 2, none⟩ = some (.int .i64 my))) (HC3 : Hid (V.cell? ⟨qm, j * 4 + 3, none⟩ = some (.int .i64 mz)))
    (HO : Hid (V.ownsRow Bs 36 4 (.slice u l c) l (flat4 ms0)))
    (hQ : ∀ (y204 y205 y206 y207 y208 y209 y210 y211 y212 y213 y214 : Value) (vq : Option Addr) (cq : Nat) (W' : World), Below Bs V W' → W'.ownsRow Bs 36 4 (.slice vq (l + 2) cq) (l + 2) (flat4 ms0 ++ flat4 [⟨mf, mx, my, mz⟩, ⟨mf, mx, my, mz⟩]) → K_ { tmps := #[s0, s1, s2, s3, s4, s5, s6, s7, .slice (some ⟨qm, 0, none⟩) m cm, s9, s10, s11, s12, s13, s14, s15, s16, .slice vq (l + 2) cq, .int .i64 ((j : Int)), s19, s20, s21, s22, s23, s24, s25, s26, s27, s28, s29, s30, s31, s32, s33, s34, s35, s36, s37, s38, s39, s40, s41, s42, s43, s44, s45, s46, s47, s48, s49, s50, s51, s52, s53, s54, s55, s56, s57, s58, s59, s60, s61, s62, s63, s64, s65, s66, s67, s68, s69, s70, s71, s72, s73, s74, s75, s76, s77, s78, s79, s80, s81, s82, s83, s84, s85, s86, s87, s88, s89, s90, s91, s92, s93, s94, s95, s96, s97, s98, s99, s100, s101, s102, s103, s104, s105, s106, s107, s108, s109, s110, s111, s112, s113, s114, s115, s116, s117, s118, s119, s120, s121, s122, s123, s124, s125, s126, s127, s128, s129, s130, s131, s132, s133, s134, s135, s136, s137, s138, s139, s140, s141, s142, s143, s144, s145, s146, s147, s148, s149, s150, s151, s152, s153, s154, s155, s156, s157, s158, s159, s160, s161, s162, s163, s164, s165, s166, s167, s168, s169, s170, s171, s172, s173, s174, s175, s176, s177, s178, s179, s180, s181, s182, s183, s184, s185, s186, s187, s188, s189, s190, s191, s192, s193, s194, s195, s196, s197, s198, s199, s200, s201, s202, s203, y204, y205, y206, y207, y208, y209, y210, y211, y212, y213, y214, s215, s216, s217, s218, s219, s220, s221, s222, s223, s224, s225, s226, s227, s228, s229, s230, s231, s232, s233, s234, s235, s236, s237, s238, s239, s240, s241, s242, s243, s244, s245, s246, s247, s248, s249, s250, s251], defers := [] } W') :
    Go.Code.wp Try.prog (reg3b 28) (Only K_) { tmps := #[s0, s1, s2, s3, s4, s5, s6, s7, .slice (some ⟨qm, 0, none⟩) m cm, s9, s10, s11, s12, s13, s14, s15, s16, .slice u l c, .int .i64 ((j : Int)), s19, s20, s21, s22, s23, s24, s25, s26, s27, s28, s29, s30, s31, s32, s33, s34, s35, s36, s37, s38, s39, s40, s41, s42, s43, s44, s45, s46, s47, s48, s49, s50, s51, s52, s53, s54, s55, s56, s57, s58, s59, s60, s61, s62, s63, s64, s65, s66, s67, s68, s69, s70, s71, s72, s73, s74, s75, s76, s77, s78, s79, s80, s81, s82, s83, s84, s85, s86, s87, s88, s89, s90, s91, s92, s93, s94, s95, s96, s97, s98, s99, s100, s101, s102, s103, s104, s105, s106, s107, s108, s109, s110, s111, s112, s113, s114, s115, s116, s117, s118, s119, s120, s121, s122, s123, s124, s125, s126, s127, s128, s129, s130, s131, s132, s133, s134, s135, s136, s137, s138, s139, s140, s141, s142, s143, s144, s145, s146, s147, s148, s149, s150, s151, s152, s153, s154, s155, s156, s157, s158, s159, s160, s161, s162, s163, s164, s165, s166, s167, s168, s169, s170, s171, s172, s173, s174, s175, s176, s177, s178, s179, s180, s181, s182, s183, s184, s185, s186, s187, s188, s189, s190, s191, s192, s193, s194, s195, s196, s197, s198, s199, s200, s201, s202, s203, s204, s205, s206, s207, s208, s209, s210, s211, s212, s213, s214, s215, s216, s217, s218, s219, s220, s221, s222, s223, s224, s225, s226, s227, s228, s229, s230, s231, s232, s233, s234, s235, s236, s237, s238, s239, s240, s241, s242, s243, s244, s245, s246, s247, s248, s249, s250, s251], defers := [] } V := by
  obtain ⟨iP, hi1, hy0, hy1, hy2⟩ := info_parts mv_info'
  have HQ := hide hQ
  clear hQ
  conv => arg 2; whnf
  refine wp_region_inv2 (fun Lb A W => ∃ (u0 u1 u2 u3 u4 u5 u6 u7 u8 u9 u10 u11 : Bool) (p : Nat) (vq : Option Addr) (cq : Nat), Lb = #[u0, u1, u2, u3, u4, u5, u6, u7, u8, u9, u10, u11] ∧ A = ({ tmps := #[s0, s1, s2, s3, s4, s5, s6, s7, .slice (some ⟨qm, 0, none⟩) m cm, s9, s10, s11, s12, s13, s14, s15, s16, (bif u11 then .slice vq (l + 2) cq else .slice u l c), .int .i64 ((j : Int)), s19, s20, s21, s22, s23, s24, s25, s26, s27, s28, s29, s30, s31, s32, s33, s34, s35, s36, s37, s38, s39, s40, s41, s42, s43, s44, s45, s46, s47, s48, s49, s50, s51, s52, s53, s54, s55, s56, s57, s58, s59, s60, s61, s62, s63, s64, s65, s66, s67, s68, s69, s70, s71, s72, s73, s74, s75, s76, s77, s78, s79, s80, s81, s82, s83, s84, s85, s86, s87, s88, s89, s90, s91, s92, s93, s94, s95, s96, s97, s98, s99, s100, s101, s102, s103, s104, s105, s106, s107, s108, s109, s110, s111, s112, s113, s114, s115, s116, s117, s118, s119, s120, s121, s122, s123, s124, s125, s126, s127, s128, s129, s130, s131, s132, s133, s134, s135, s136, s137, s138, s139, s140, s141, s142, s143, s144, s145, s146, s147, s148, s149, s150, s151, s152, s153, s154, s155, s156, s157, s158, s159, s160, s161, s162, s163, s164, s165, s166, s167, s168, s169, s170, s171, s172, s173, s174, s175, s176, s177, s178, s179, s180, s181, s182, s183, s184, s185, s186, s187, s188, s189, s190, s191, s192, s193, s194, s195, s196, s197, s198, s199, s200, s201, s202, s203, (bif u0 then .slice u l c else s204), (bif u1 then .slice (some ⟨qm, 0, none⟩) m cm else s205), (bif u2 then .int .i64 ((j : Int)) else s206), (bif u3 then .pointer (some ⟨qm, j * 4, none⟩) else s207), (bif u4 then .agg #[.bool mf, .int .i64 mx, .int .i64 my, .int .i64 mz] else s208), (bif u5 then .slice (some ⟨qm, 0, none⟩) m cm else s209), (bif u6 then .int .i64 ((j : Int)) else s210), (bif u7 then .pointer (some ⟨qm, j * 4, none⟩) else s211), (bif u8 then .agg #[.bool mf, .int .i64 mx, .int .i64 my, .int .i64 mz] else s212), (bif u9 then .slice (some ⟨p, 0, none⟩) 2 2 else s213), (bif u10 then .slice vq (l + 2) cq else s214), s215, s216, s217, s218, s219, s220, s221, s222, s223, s224, s225, s226, s227, s228, s229, s230, s231, s232, s233, s234, s235, s236, s237, s238, s239, s240, s241, s242, s243, s244, s245, s246, s247, s248, s249, s250, s251], defers := [] } : Act) ∧ Below Bs V W ∧ (u10 = false → W.ownsRow Bs 36 4 (.slice u l c) l (flat4 ms0)) ∧ (u9 = true → u10 = false → W.heap[p]? = some (.cells (flat4 [⟨mf, mx, my, mz⟩, ⟨mf, mx, my, mz⟩]).toArray 36)) ∧ (u10 = true → W.ownsRow Bs 36 4 (.slice vq (l + 2) cq) (l + 2) (flat4 ms0 ++ flat4 [⟨mf, mx, my, mz⟩, ⟨mf, mx, my, mz⟩])) ∧ (u3 = true → u1 = true ∧ u2 = true) ∧ (u4 = true → u3 = true) ∧ (u7 = true → u5 = true ∧ u6 = true) ∧ (u8 = true → u7 = true) ∧ (u9 = true → u4 = true ∧ u8 = true) ∧ (u10 = true → u0 = true ∧ u9 = true) ∧ (u11 = true → u0 = true ∧ u1 = true ∧ u2 = true ∧ u3 = true ∧ u4 = true ∧ u5 = true ∧ u6 = true ∧ u7 = true ∧ u8 = true ∧ u9 = true ∧ u10 = true)) (by kernel_rfl) (by kernel_rfl) ?h0 ?hstep ?hend
  case h0 =>
    exact ⟨false, false, false, false, false, false, false, false, false, false, false, false, 0, none, 0, rfl, rfl, Below.drew (Below.refl _ _), (fun _ => own_drew (unhide HO)), (fun h => nomatch h), (fun h => nomatch h), (fun h => nomatch h), (fun h => nomatch h), (fun h => nomatch h), (fun h => nomatch h), (fun h => nomatch h), (fun h => nomatch h), (fun h => nomatch h)⟩
  case hstep =>
    rintro Lb A W ⟨u0, u1, u2, u3, u4, u5, u6, u7, u8, u9, u10, u11, p, vq, cq, rfl, rfl, kB, kO, q9, kZ, c3, c4, c7, c8, c9, c10, kF⟩
    refine ⟨?_, ?_, ?_, ?_, ?_, ?_, ?_, ?_, ?_, ?_, ?_, ?_, trivial⟩
    · intro h0 hd K hK
      have z : u0 = false := h0
      have z11_ : u11 = false := by
        cases hu : u11 with
        | false => rfl
        | true => exact nomatch z.symm.trans ((kF hu).1)
      have z10_ : u10 = false := by
        cases hu : u10 with
        | false => rfl
        | true => exact nomatch z.symm.trans ((c10 hu).1)
      have H_kB := hide kB
      have H_kO := hide kO
      have H_q9 := hide q9
      have H_kZ := hide kZ
      have H_c3 := hide c3
      have H_c4 := hide c4
      have H_c7 := hide c7
      have H_c8 := hide c8
      have H_c9 := hide c9
      have H_c10 := hide c10
      have H_kF := hide kF
      clear kB kO q9 kZ c3 c4 c7 c8 c9 c10 kF
      subst z11_
      subst z10_
      subst z
      clear h0 hd
      rw [if_pos (by rfl)]
      go_simp
      exact unhide hK _ _ ⟨true, u1, u2, u3, u4, u5, u6, u7, u8, u9, false, false, p, vq, cq, rfl, rfl, unhide H_kB, unhide H_kO, unhide H_q9, (fun h => nomatch h), unhide H_c3, unhide H_c4, unhide H_c7, unhide H_c8, unhide H_c9, (fun h => nomatch h), (fun h => nomatch h)⟩
    · intro h0 hd K hK
      have z : u1 = false := h0
      have z11_ : u11 = false := by
        cases hu : u11 with
        | false => rfl
        | true => exact nomatch z.symm.trans ((kF hu).2.1)
      have z10_ : u10 = false := by
        cases hu : u10 with
        | false => rfl
        | true => exact nomatch z.symm.trans ((c3 (c4 (c9 (c10 hu).2).1)).1)
      have H_kB := hide kB
      have H_kO := hide kO
      have H_q9 := hide q9
      have H_kZ := hide kZ
      have H_c3 := hide c3
      have H_c4 := hide c4
      have H_c7 := hide c7
      have H_c8 := hide c8
      have H_c9 := hide c9
      have H_c10 := hide c10
      have H_kF := hide kF
      clear kB kO q9 kZ c3 c4 c7 c8 c9 c10 kF
      subst z11_
      subst z10_
      subst z
      clear h0 hd
      rw [if_pos (by rfl)]
      go_simp
      exact unhide hK _ _ ⟨u0, true, u2, u3, u4, u5, u6, u7, u8, u9, false, false, p, vq, cq, rfl, rfl, unhide H_kB, unhide H_kO, unhide H_q9, (fun h => nomatch h), (fun h => ⟨rfl, (unhide H_c3 h).2⟩), unhide H_c4, unhide H_c7, unhide H_c8, unhide H_c9, (fun h => nomatch h), (fun h => nomatch h)⟩
    · intro h0 hd K hK
      have z : u2 = false := h0
      have z11_ : u11 = false := by
        cases hu : u11 with
        | false => rfl
        | true => exact nomatch z.symm.trans ((kF hu).2.2.1)
      have z10_ : u10 = false := by
        cases hu : u10 with
        | false => rfl
        | true => exact nomatch z.symm.trans ((c3 (c4 (c9 (c10 hu).2).1)).2)
      have H_kB := hide kB
      have H_kO := hide kO
      have H_q9 := hide q9
      have H_kZ := hide kZ
      have H_c3 := hide c3
      have H_c4 := hide c4
      have H_c7 := hide c7
      have H_c8 := hide c8
      have H_c9 := hide c9
      have H_c10 := hide c10
      have H_kF := hide kF
      clear kB kO q9 kZ c3 c4 c7 c8 c9 c10 kF
      subst z11_
      subst z10_
      subst z
      clear h0 hd
      rw [if_pos (by rfl)]
      go_simp
      exact unhide hK _ _ ⟨u0, u1, true, u3, u4, u5, u6, u7, u8, u9, false, false, p, vq, cq, rfl, rfl, unhide H_kB, unhide H_kO, unhide H_q9, (fun h => nomatch h), (fun h => ⟨(unhide H_c3 h).1, rfl⟩), unhide H_c4, unhide H_c7, unhide H_c8, unhide H_c9, (fun h => nomatch h), (fun h => nomatch h)⟩
    · intro h0 hd K hK
      have z : u3 = false := h0
      have z11_ : u11 = false := by
        cases hu : u11 with
        | false => rfl
        | true => exact nomatch z.symm.trans ((kF hu).2.2.2.1)
      have z10_ : u10 = false := by
        cases hu : u10 with
        | false => rfl
        | true => exact nomatch z.symm.trans ((c4 (c9 (c10 hu).2).1))
      have zd : u1 = true ∧ u2 = true := by
        simp [Region.binds] at hd
        simp [hd]
      have H_kB := hide kB
      have H_kO := hide kO
      have H_q9 := hide q9
      have H_kZ := hide kZ
      have H_c3 := hide c3
      have H_c4 := hide c4
      have H_c7 := hide c7
      have H_c8 := hide c8
      have H_c9 := hide c9
      have H_c10 := hide c10
      have H_kF := hide kF
      clear kB kO q9 kZ c3 c4 c7 c8 c9 c10 kF
      obtain ⟨rfl, rfl⟩ := zd
      subst z11_
      subst z10_
      subst z
      clear h0 hd
      rw [if_pos (by rfl)]
      have o1 : (0 : Int) ≤ (j : Int) := Int.natCast_nonneg _
      have o2 : (j : Int) < (m : Int) := by omega
      go_simp
      exact unhide hK _ _ ⟨u0, true, true, true, u4, u5, u6, u7, u8, u9, false, false, p, vq, cq, rfl, rfl, unhide H_kB, unhide H_kO, unhide H_q9, (fun h => nomatch h), (fun _ => ⟨rfl, rfl⟩), (fun h => rfl), unhide H_c7, unhide H_c8, unhide H_c9, (fun h => nomatch h), (fun h => nomatch h)⟩
    · intro h0 hd K hK
      have z : u4 = false := h0
      have z11_ : u11 = false := by
        cases hu : u11 with
        | false => rfl
        | true => exact nomatch z.symm.trans ((kF hu).2.2.2.2.1)
      have z10_ : u10 = false := by
        cases hu : u10 with
        | false => rfl
        | true => exact nomatch z.symm.trans ((c9 (c10 hu).2).1)
      have zd : u3 = true := by
        simp [Region.binds] at hd
        simp [hd]
      have H_kB := hide kB
      have H_kO := hide kO
      have H_q9 := hide q9
      have H_kZ := hide kZ
      have H_c3 := hide c3
      have H_c4 := hide c4
      have H_c7 := hide c7
      have H_c8 := hide c8
      have H_c9 := hide c9
      have H_c10 := hide c10
      have H_kF := hide kF
      clear kB kO q9 kZ c3 c4 c7 c8 c9 c10 kF
      obtain ⟨rfl⟩ := zd
      subst z11_
      subst z10_
      subst z
      clear h0 hd
      rw [if_pos (by rfl)]
      have q0 := ((unhide H_kB).cell (p := ⟨qm, _, none⟩) hqB).trans (unhide HC0)
      have q1 := ((unhide H_kB).cell (p := ⟨qm, _, none⟩) hqB).trans (unhide HC1)
      have q2 := ((unhide H_kB).cell (p := ⟨qm, _, none⟩) hqB).trans (unhide HC2)
      have q3 := ((unhide H_kB).cell (p := ⟨qm, _, none⟩) hqB).trans (unhide HC3)
      go_simp
      exact unhide hK _ _ ⟨u0, u1, u2, true, true, u5, u6, u7, u8, u9, false, false, p, vq, cq, rfl, rfl, unhide H_kB, unhide H_kO, unhide H_q9, (fun h => nomatch h), unhide H_c3, (fun _ => rfl), unhide H_c7, unhide H_c8, (fun h => ⟨rfl, (unhide H_c9 h).2⟩), (fun h => nomatch h), (fun h => nomatch h)⟩
    · intro h0 hd K hK
      have z : u5 = false := h0
      have z11_ : u11 = false := by
        cases hu : u11 with
        | false => rfl
        | true => exact nomatch z.symm.trans ((kF hu).2.2.2.2.2.1)
      have z10_ : u10 = false := by
        cases hu : u10 with
        | false => rfl
        | true => exact nomatch z.symm.trans ((c7 (c8 (c9 (c10 hu).2).2)).1)
      have H_kB := hide kB
      have H_kO := hide kO
      have H_q9 := hide q9
      have H_kZ := hide kZ
      have H_c3 := hide c3
      have H_c4 := hide c4
      have H_c7 := hide c7
      have H_c8 := hide c8
      have H_c9 := hide c9
      have H_c10 := hide c10
      have H_kF := hide kF
      clear kB kO q9 kZ c3 c4 c7 c8 c9 c10 kF
      subst z11_
      subst z10_
      subst z
      clear h0 hd
      rw [if_pos (by rfl)]
      go_simp
      exact unhide hK _ _ ⟨u0, u1, u2, u3, u4, true, u6, u7, u8, u9, false, false, p, vq, cq, rfl, rfl, unhide H_kB, unhide H_kO, unhide H_q9, (fun h => nomatch h), unhide H_c3, unhide H_c4, (fun h => ⟨rfl, (unhide H_c7 h).2⟩), unhide H_c8, unhide H_c9, (fun h => nomatch h), (fun h => nomatch h)⟩
    · intro h0 hd K hK
      have z : u6 = false := h0
      have z11_ : u11 = false := by
        cases hu : u11 with
        | false => rfl
        | true => exact nomatch z.symm.trans ((kF hu).2.2.2.2.2.2.1)
      have z10_ : u10 = false := by
        cases hu : u10 with
        | false => rfl
        | true => exact nomatch z.symm.trans ((c7 (c8 (c9 (c10 hu).2).2)).2)
      have H_kB := hide kB
      have H_kO := hide kO
      have H_q9 := hide q9
      have H_kZ := hide kZ
      have H_c3 := hide c3
      have H_c4 := hide c4
      have H_c7 := hide c7
      have H_c8 := hide c8
      have H_c9 := hide c9
      have H_c10 := hide c10
      have H_kF := hide kF
      clear kB kO q9 kZ c3 c4 c7 c8 c9 c10 kF
      subst z11_
      subst z10_
      subst z
      clear h0 hd
      rw [if_pos (by rfl)]
      go_simp
      exact unhide hK _ _ ⟨u0, u1, u2, u3, u4, u5, true, u7, u8, u9, false, false, p, vq, cq, rfl, rfl, unhide H_kB, unhide H_kO, unhide H_q9, (fun h => nomatch h), unhide H_c3, unhide H_c4, (fun h => ⟨(unhide H_c7 h).1, rfl⟩), unhide H_c8, unhide H_c9, (fun h => nomatch h), (fun h => nomatch h)⟩
    · intro h0 hd K hK
      have z : u7 = false := h0
      have z11_ : u11 = false := by
        cases hu : u11 with
        | false => rfl
        | true => exact nomatch z.symm.trans ((kF hu).2.2.2.2.2.2.2.1)
      have z10_ : u10 = false := by
        cases hu : u10 with
        | false => rfl
        | true => exact nomatch z.symm.trans ((c8 (c9 (c10 hu).2).2))
      have zd : u5 = true ∧ u6 = true := by
        simp [Region.binds] at hd
        simp [hd]
      have H_kB := hide kB
      have H_kO := hide kO
      have H_q9 := hide q9
      have H_kZ := hide kZ
      have H_c3 := hide c3
      have H_c4 := hide c4
      have H_c7 := hide c7
      have H_c8 := hide c8
      have H_c9 := hide c9
      have H_c10 := hide c10
      have H_kF := hide kF
      clear kB kO q9 kZ c3 c4 c7 c8 c9 c10 kF
      obtain ⟨rfl, rfl⟩ := zd
      subst z11_
      subst z10_
      subst z
      clear h0 hd
      rw [if_pos (by rfl)]
      have o1 : (0 : Int) ≤ (j : Int) := Int.natCast_nonneg _
      have o2 : (j : Int) < (m : Int) := by omega
      go_simp
      exact unhide hK _ _ ⟨u0, u1, u2, u3, u4, true, true, true, u8, u9, false, false, p, vq, cq, rfl, rfl, unhide H_kB, unhide H_kO, unhide H_q9, (fun h => nomatch h), unhide H_c3, unhide H_c4, (fun _ => ⟨rfl, rfl⟩), (fun h => rfl), unhide H_c9, (fun h => nomatch h), (fun h => nomatch h)⟩
    · intro h0 hd K hK
      have z : u8 = false := h0
      have z11_ : u11 = false := by
        cases hu : u11 with
        | false => rfl
        | true => exact nomatch z.symm.trans ((kF hu).2.2.2.2.2.2.2.2.1)
      have z10_ : u10 = false := by
        cases hu : u10 with
        | false => rfl
        | true => exact nomatch z.symm.trans ((c9 (c10 hu).2).2)
      have zd : u7 = true := by
        simp [Region.binds] at hd
        simp [hd]
      have H_kB := hide kB
      have H_kO := hide kO
      have H_q9 := hide q9
      have H_kZ := hide kZ
      have H_c3 := hide c3
      have H_c4 := hide c4
      have H_c7 := hide c7
      have H_c8 := hide c8
      have H_c9 := hide c9
      have H_c10 := hide c10
      have H_kF := hide kF
      clear kB kO q9 kZ c3 c4 c7 c8 c9 c10 kF
      obtain ⟨rfl⟩ := zd
      subst z11_
      subst z10_
      subst z
      clear h0 hd
      rw [if_pos (by rfl)]
      have q0 := ((unhide H_kB).cell (p := ⟨qm, _, none⟩) hqB).trans (unhide HC0)
      have q1 := ((unhide H_kB).cell (p := ⟨qm, _, none⟩) hqB).trans (unhide HC1)
      have q2 := ((unhide H_kB).cell (p := ⟨qm, _, none⟩) hqB).trans (unhide HC2)
      have q3 := ((unhide H_kB).cell (p := ⟨qm, _, none⟩) hqB).trans (unhide HC3)
      go_simp
      exact unhide hK _ _ ⟨u0, u1, u2, u3, u4, u5, u6, true, true, u9, false, false, p, vq, cq, rfl, rfl, unhide H_kB, unhide H_kO, unhide H_q9, (fun h => nomatch h), unhide H_c3, unhide H_c4, unhide H_c7, (fun _ => rfl), (fun h => ⟨(unhide H_c9 h).1, rfl⟩), (fun h => nomatch h), (fun h => nomatch h)⟩
    · intro h0 hd K hK
      have z : u9 = false := h0
      have z11_ : u11 = false := by
        cases hu : u11 with
        | false => rfl
        | true => exact nomatch z.symm.trans ((kF hu).2.2.2.2.2.2.2.2.2.1)
      have z10_ : u10 = false := by
        cases hu : u10 with
        | false => rfl
        | true => exact nomatch z.symm.trans ((c10 hu).2)
      have zd : u4 = true ∧ u8 = true := by
        simp [Region.binds] at hd
        simp [hd]
      have H_kB := hide kB
      have H_kO := hide kO
      have H_q9 := hide q9
      have H_kZ := hide kZ
      have H_c3 := hide c3
      have H_c4 := hide c4
      have H_c7 := hide c7
      have H_c8 := hide c8
      have H_c9 := hide c9
      have H_c10 := hide c10
      have H_kF := hide kF
      clear kB kO q9 kZ c3 c4 c7 c8 c9 c10 kF
      obtain ⟨rfl, rfl⟩ := zd
      subst z11_
      subst z10_
      subst z
      clear h0 hd
      rw [if_pos (by rfl)]
      go_simp
      exact unhide hK _ _ ⟨u0, u1, u2, u3, true, u5, u6, u7, true, true, false, false, W.heap.size, vq, cq, rfl, rfl, ((unhide H_kB).alloc (Nat.le_trans hBV (unhide H_kB).size) _), (fun h => (unhide H_kO h).alloc _), (fun _ _ => heap_alloc_new W _), (fun h => nomatch h), unhide H_c3, unhide H_c4, unhide H_c7, unhide H_c8, (fun _ => ⟨rfl, rfl⟩), (fun h => nomatch h), (fun h => nomatch h)⟩
    · intro h0 hd K hK
      have z : u10 = false := h0
      have z11_ : u11 = false := by
        cases hu : u11 with
        | false => rfl
        | true => exact nomatch z.symm.trans ((kF hu).2.2.2.2.2.2.2.2.2.2)
      have zd : u0 = true ∧ u9 = true := by
        simp [Region.binds] at hd
        simp [hd]
      have H_kB := hide kB
      have H_kO := hide kO
      have H_q9 := hide q9
      have H_kZ := hide kZ
      have H_c3 := hide c3
      have H_c4 := hide c4
      have H_c7 := hide c7
      have H_c8 := hide c8
      have H_c9 := hide c9
      have H_c10 := hide c10
      have H_kF := hide kF
      clear kB kO q9 kZ c3 c4 c7 c8 c9 c10 kF
      obtain ⟨rfl, rfl⟩ := zd
      subst z11_
      subst z
      clear h0 hd
      rw [if_pos (by rfl)]
      have HO0 := unhide H_kO rfl
      have hq0 := unhide H_q9 rfl rfl
      have hsz := Nat.le_trans hBV (unhide H_kB).size
      refine wp_append_own W (.tmp 204) (.tmp 213) 28 (by rfl) Bs 36 iP _ 4 32 Try.underlying28 hi1 hy0 hy1 hy2 rfl (by omega) (.slice u l c) l (flat4 ms0) (by rfl) HO0 ⟨p, 0, none⟩ 2 2 (flat4 [⟨mf, mx, my, mz⟩, ⟨mf, mx, my, mz⟩]) (by rfl) (by rfl) (cells_at hq0) (flat4_one _) (by unfold maxLen; omega) (by omega) hsz ?_
      intro v' wz hown' hgrow _
      have hbz : Below Bs V wz := (unhide H_kB).grown hgrow hsz (fun j hj => (World.ownsRow.lt HO0 j hj).1)
      obtain ⟨vz, cz, rfl⟩ := own_slice hown'
      exact unhide hK _ _ ⟨true, u1, u2, u3, u4, u5, u6, u7, u8, true, true, false, p, vz, cz, rfl, rfl, hbz, (fun h => nomatch h), (fun _ h => nomatch h), (fun _ => hown'), unhide H_c3, unhide H_c4, unhide H_c7, unhide H_c8, unhide H_c9, (fun _ => ⟨rfl, rfl⟩), (fun h => nomatch h)⟩
    · intro h0 hd K hK
      have z : u11 = false := h0
      have zd : u10 = true ∧ u0 = true ∧ u1 = true ∧ u2 = true ∧ u3 = true ∧ u4 = true ∧ u5 = true ∧ u6 = true ∧ u7 = true ∧ u8 = true ∧ u9 = true := by
        simp [Region.binds] at hd
        first | (simp [hd]; done) | (have e10 := c10 (by simp [hd]); have e9 := c9 e10.2; have e4 := c4 e9.1; have e8 := c8 e9.2; have e3 := c3 e4; have e7 := c7 e8; simp [hd, e10, e9, e4, e8, e3, e7])
      have H_kB := hide kB
      have H_kO := hide kO
      have H_q9 := hide q9
      have H_kZ := hide kZ
      have H_c3 := hide c3
      have H_c4 := hide c4
      have H_c7 := hide c7
      have H_c8 := hide c8
      have H_c9 := hide c9
      have H_c10 := hide c10
      have H_kF := hide kF
      clear kB kO q9 kZ c3 c4 c7 c8 c9 c10 kF
      obtain ⟨rfl, rfl, rfl, rfl, rfl, rfl, rfl, rfl, rfl, rfl, rfl⟩ := zd
      subst z
      clear h0 hd
      rw [if_pos (by rfl)]
      go_simp
      exact unhide hK _ _ ⟨true, true, true, true, true, true, true, true, true, true, true, true, p, vq, cq, rfl, rfl, unhide H_kB, unhide H_kO, unhide H_q9, unhide H_kZ, (fun _ => ⟨rfl, rfl⟩), (fun _ => rfl), (fun _ => ⟨rfl, rfl⟩), (fun _ => rfl), (fun _ => ⟨rfl, rfl⟩), (fun _ => ⟨rfl, rfl⟩), (fun _ => ⟨rfl, rfl, rfl, rfl, rfl, rfl, rfl, rfl, rfl, rfl, rfl⟩)⟩
  case hend =>
    rintro Lb A W ⟨u0, u1, u2, u3, u4, u5, u6, u7, u8, u9, u10, u11, p, vq, cq, rfl, rfl, kB, kO, q9, kZ, c3, c4, c7, c8, c9, c10, kF⟩ hL
    have hl : u0 = true ∧ u1 = true ∧ u2 = true ∧ u3 = true ∧ u4 = true ∧ u5 = true ∧ u6 = true ∧ u7 = true ∧ u8 = true ∧ u9 = true ∧ u10 = true ∧ u11 = true := by
      have h2 := congrArg Array.toList hL
      simpa [List.replicate] using h2
    obtain ⟨rfl, rfl, rfl, rfl, rfl, rfl, rfl, rfl, rfl, rfl, rfl, rfl⟩ := hl
    exact unhide HQ _ _ _ _ _ _ _ _ _ _ _ vq cq W kB (kZ rfl)

end Go.Proofs.Ytbjljofgpbecbaa
