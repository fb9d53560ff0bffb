/-
  One statement of the law of floors, walked alone: drawn moves are milled by the model.
-/
import Derived.Test.YtbjljofgpbecbaaMvBase
import Derived.Test.YtbjljofgpbecbaaOwn
import Derived.Test.YtbjljofgpbecbaaRowX
import Derived.Test.YtbjljofgpbecbaaInv2
namespace Go.Proofs.Ytbjljofgpbecbaa
open Go.ChangeShapes Go.WideShapes Go.ChangeAt Go.RowKit
set_option linter.unusedVariables false
set_option linter.unusedSimpArgs false

noncomputable def reg4 (id : Nat) : Go.Code := match Try.f4.body with | some c => (regOf id c).getD .skip | none => .skip
set_option maxHeartbeats 4000000 in
set_option maxRecDepth 100000 in
theorem ff17 {s0 s2 s3 s4 s8 s9 s10 s11 s12 s13 s14 s15 s16 s17 s18 s19 s20 s21 s22 s23 s24 s25 s26 s27 s28 s29 s30 s31 s32 s33 s34 s35 s36 s37 s38 s39 s40 s41 s42 s43 s44 s45 s46 s47 s48 s49 s50 s51 s52 s53 s54 s55 s56 s57 s58 s59 s60 s61 s62 s63 s64 s65 s66 s67 s68 s69 s70 s71 s72 s73 s74 s75 s76 s77 s78 s79 s80 s81 s82 s83 s84 s85 s86 s87 s88 s89 s90 s91 s92 s93 s94 s95 s96 s97 s98 s99 s100 s101 s102 s103 s104 s105 s106 s107 s108 s109 s110 s111 s112 s113 s114 s115 s116 s117 s118 s119 s120 s121 s122 s123 s124 s125 s126 s127 s128 s129 s130 s131 s132 s133 s134 s135 s136 s137 s138 s139 s140 s141 s142 s143 s144 s145 s146 s147 s148 s149 s150 s151 s152 s153 s154 s155 s156 s157 s158 s159 s160 s161 s162 s163 s164 s165 s166 s167 s168 s169 s170 s171 s172 s173 s174 s175 s176 s177 s178 s179 s180 s181 s182 s183 : Value} {Wd Hd r gs pos cs g po c n len2 cap2 b5 b6 : Nat} {a2 : Option Addr} {Rf : List Int → Prop} {V : World} {K_ : Act → World → Prop}
    (HS : Hid (vb V b5 25 [.int .i64 (Wd : Int), .int .i64 (Hd : Int), .slice (some ⟨gs, pos, none⟩) n cs])) (HP : Hid (vb V b6 25 [.int .i64 (Wd : Int), .int .i64 (Hd : Int), .slice (some ⟨g, po, none⟩) n c]))
    (HCM : Hid (∀ X, Below V.heap.size V X → Calls Try.prog 10 #[.agg #[.int .i64 (Wd : Int), .int .i64 (Hd : Int), .slice (some ⟨gs, pos, none⟩) n cs], .slice a2 len2 cap2] X fun e w' => (∃ qm cm ms m, e = .returned (.slice (some ⟨qm, 0, none⟩) m cm) ∧ Mvs w' (some ⟨qm, 0, none⟩) qm 0 ms ∧ ms.length = m ∧ m ≤ 100) ∧ Below X.heap.size X w'))
    (HC12 : Hid (∀ (qm m cm : Nat) (ms : List Mve) (X : World), Below V.heap.size V X → Mvs X (some ⟨qm, 0, none⟩) qm 0 ms → ms.length = m → m ≤ 100 → Calls Try.prog 12 #[.agg #[.int .i64 (Wd : Int), .int .i64 (Hd : Int), .slice (some ⟨gs, pos, none⟩) n cs], .agg #[.int .i64 (Wd : Int), .int .i64 (Hd : Int), .slice (some ⟨g, po, none⟩) n c], .int .i64 (r : Int), .slice (some ⟨qm, 0, none⟩) m cm] X fun e w' => (∃ E bd q cap cu ai de T, e = .returned (.agg #[.int .i64 E, .int .i64 bd, .int .i64 (Wd : Int), .int .i64 (Hd : Int), .slice (some ⟨q, 0, none⟩) n cap, .int .i64 cu, .int .i64 ai, .int .i64 de]) ∧ Row w' X.heap.size 3 1 (.slice (some ⟨q, 0, none⟩) n cap) n T ∧ Rf T) ∧ Below X.heap.size X w'))
    (hQ : ∀ (y124 y125 y126 y127 y128 y129 y130 : Value) (E bd : Int) (q cap : Nat) (cu ai de : Int) (T : List Int) (M : Nat) (W' : World), Below V.heap.size V W' → Row W' V.heap.size 3 1 (.slice (some ⟨q, 0, none⟩) n cap) n T → Rf T → V.heap.size ≤ M → vb W' M 31 [.int .i64 E, .int .i64 bd, .int .i64 (Wd : Int), .int .i64 (Hd : Int), .slice (some ⟨q, 0, none⟩) n cap, .int .i64 cu, .int .i64 ai, .int .i64 de] → K_ { tmps := #[s0, .slice a2 len2 cap2, s2, s3, s4, .pointer (some ⟨b5, 0, none⟩), .pointer (some ⟨b6, 0, none⟩), .int .i64 ((r : Int)), s8, s9, s10, s11, s12, s13, s14, s15, s16, .pointer (some ⟨M, 0, none⟩), s18, s19, s20, s21, s22, s23, s24, s25, s26, s27, s28, s29, s30, s31, s32, s33, s34, s35, s36, s37, s38, s39, s40, s41, s42, s43, s44, s45, s46, s47, s48, s49, s50, s51, s52, s53, s54, s55, s56, s57, s58, s59, s60, s61, s62, s63, s64, s65, s66, s67, s68, s69, s70, s71, s72, s73, s74, s75, s76, s77, s78, s79, s80, s81, s82, s83, s84, s85, s86, s87, s88, s89, s90, s91, s92, s93, s94, s95, s96, s97, s98, s99, s100, s101, s102, s103, s104, s105, s106, s107, s108, s109, s110, s111, s112, s113, s114, s115, s116, s117, s118, s119, s120, s121, s122, s123, y124, y125, y126, y127, y128, y129, y130, s131, s132, s133, s134, s135, s136, s137, s138, s139, s140, s141, s142, s143, s144, s145, s146, s147, s148, s149, s150, s151, s152, s153, s154, s155, s156, s157, s158, s159, s160, s161, s162, s163, s164, s165, s166, s167, s168, s169, s170, s171, s172, s173, s174, s175, s176, s177, s178, s179, s180, s181, s182, s183], defers := [] } W') :
    Go.Code.wp Try.prog (reg4 17) (Only K_) { tmps := #[s0, .slice a2 len2 cap2, s2, s3, s4, .pointer (some ⟨b5, 0, none⟩), .pointer (some ⟨b6, 0, none⟩), .int .i64 ((r : Int)), s8, s9, s10, s11, s12, s13, s14, s15, s16, s17, s18, s19, s20, s21, s22, s23, s24, s25, s26, s27, s28, s29, s30, s31, s32, s33, s34, s35, s36, s37, s38, s39, s40, s41, s42, s43, s44, s45, s46, s47, s48, s49, s50, s51, s52, s53, s54, s55, s56, s57, s58, s59, s60, s61, s62, s63, s64, s65, s66, s67, s68, s69, s70, s71, s72, s73, s74, s75, s76, s77, s78, s79, s80, s81, s82, s83, s84, s85, s86, s87, s88, s89, s90, s91, s92, s93, s94, s95, s96, s97, s98, s99, s100, s101, s102, s103, s104, s105, s106, s107, s108, s109, s110, s111, s112, s113, s114, s115, s116, s117, s118, s119, s120, s121, s122, s123, s124, s125, s126, s127, s128, s129, s130, s131, s132, s133, s134, s135, s136, s137, s138, s139, s140, s141, s142, s143, s144, s145, s146, s147, s148, s149, s150, s151, s152, s153, s154, s155, s156, s157, s158, s159, s160, s161, s162, s163, s164, s165, s166, s167, s168, s169, s170, s171, s172, s173, s174, s175, s176, s177, s178, s179, s180, s181, s182, s183], defers := [] } V := by
  have HQ := hide hQ
  clear hQ
  conv => arg 2; whnf
  refine wp_region_inv2 (fun Lb A W => ∃ (u0 u1 u2 u3 u4 u5 u6 u7 u8 : Bool) (qm : Nat) (m : Nat) (cm : Nat) (ms : List Mve) (E : Int) (bd : Int) (q : Nat) (cap : Nat) (cu : Int) (ai : Int) (de : Int) (T : List Int) (M : Nat), Lb = #[u0, u1, u2, u3, u4, u5, u6, u7, u8] ∧ A = ({ tmps := #[s0, .slice a2 len2 cap2, s2, s3, s4, .pointer (some ⟨b5, 0, none⟩), .pointer (some ⟨b6, 0, none⟩), .int .i64 ((r : Int)), s8, s9, s10, s11, s12, s13, s14, s15, s16, (bif u7 then .pointer (some ⟨M, 0, none⟩) else s17), s18, s19, s20, s21, s22, s23, s24, s25, s26, s27, s28, s29, s30, s31, s32, s33, s34, s35, s36, s37, s38, s39, s40, s41, s42, s43, s44, s45, s46, s47, s48, s49, s50, s51, s52, s53, s54, s55, s56, s57, s58, s59, s60, s61, s62, s63, s64, s65, s66, s67, s68, s69, s70, s71, s72, s73, s74, s75, s76, s77, s78, s79, s80, s81, s82, s83, s84, s85, s86, s87, s88, s89, s90, s91, s92, s93, s94, s95, s96, s97, s98, s99, s100, s101, s102, s103, s104, s105, s106, s107, s108, s109, s110, s111, s112, s113, s114, s115, s116, s117, s118, s119, s120, s121, s122, s123, (bif u0 then .agg #[.int .i64 (Wd : Int), .int .i64 (Hd : Int), .slice (some ⟨gs, pos, none⟩) n cs] else s124), (bif u1 then .agg #[.int .i64 (Wd : Int), .int .i64 (Hd : Int), .slice (some ⟨g, po, none⟩) n c] else s125), (bif u2 then .int .i64 ((r : Int)) else s126), (bif u3 then .agg #[.int .i64 (Wd : Int), .int .i64 (Hd : Int), .slice (some ⟨gs, pos, none⟩) n cs] else s127), (bif u4 then .slice a2 len2 cap2 else s128), (bif u5 then .slice (some ⟨qm, 0, none⟩) m cm else s129), (bif u6 then .agg #[.int .i64 E, .int .i64 bd, .int .i64 (Wd : Int), .int .i64 (Hd : Int), .slice (some ⟨q, 0, none⟩) n cap, .int .i64 cu, .int .i64 ai, .int .i64 de] else s130), s131, s132, s133, s134, s135, s136, s137, s138, s139, s140, s141, s142, s143, s144, s145, s146, s147, s148, s149, s150, s151, s152, s153, s154, s155, s156, s157, s158, s159, s160, s161, s162, s163, s164, s165, s166, s167, s168, s169, s170, s171, s172, s173, s174, s175, s176, s177, s178, s179, s180, s181, s182, s183], defers := [] } : Act) ∧ Below V.heap.size V W ∧ (u5 = true → u8 = false → Mvs W (some ⟨qm, 0, none⟩) qm 0 ms ∧ ms.length = m ∧ m ≤ 100) ∧ (u6 = true → Row W V.heap.size 3 1 (.slice (some ⟨q, 0, none⟩) n cap) n T ∧ Rf T) ∧ (u7 = true → V.heap.size ≤ M ∧ M < W.heap.size ∧ (u8 = false → vb W M 31 [.int .i64 0, .int .i64 0, .int .i64 0, .int .i64 0, .slice none 0 0, .int .i64 0, .int .i64 0, .int .i64 0])) ∧ (u6 = true → u7 = true → q ≠ M) ∧ (u8 = true → vb W M 31 [.int .i64 E, .int .i64 bd, .int .i64 (Wd : Int), .int .i64 (Hd : Int), .slice (some ⟨q, 0, none⟩) n cap, .int .i64 cu, .int .i64 ai, .int .i64 de]) ∧ (u5 = true → u3 = true ∧ u4 = true) ∧ (u6 = true → u0 = true ∧ u1 = true ∧ u2 = true ∧ u5 = true) ∧ (u8 = true → u0 = true ∧ u1 = true ∧ u2 = true ∧ u3 = true ∧ u4 = true ∧ u5 = true ∧ u6 = true ∧ u7 = true)) (by kernel_rfl) (by kernel_rfl) ?h0 ?hstep ?hend
  case h0 =>
    exact ⟨false, false, false, false, false, false, false, false, false, 0, 0, 0, [], 0, 0, 0, 0, 0, 0, 0, [], 0, rfl, rfl, Below.drew (Below.refl _ _), (fun h => nomatch h), (fun h => nomatch h), (fun h => nomatch h), (fun h => nomatch h), (fun h => nomatch h), (fun h => nomatch h), (fun h => nomatch h), (fun h => nomatch h)⟩
  case hstep =>
    rintro Lb A W ⟨u0, u1, u2, u3, u4, u5, u6, u7, u8, qm, m, cm, ms, E, bd, q, cap, cu, ai, de, T, M, rfl, rfl, kB, k5, k6, k7, kN, k9, c5, c6, kF⟩
    refine ⟨?_, ?_, ?_, ?_, ?_, ?_, ?_, ?_, ?_, trivial⟩
    · intro h0 hd K hK
      have z : u0 = false := h0
      have z8_ : u8 = false := by
        cases hu : u8 with
        | false => rfl
        | true => exact nomatch z.symm.trans ((kF hu).1)
      have H_kB := hide kB
      have H_k5 := hide k5
      have H_k6 := hide k6
      have H_k7 := hide k7
      have H_kN := hide kN
      have H_k9 := hide k9
      have H_c5 := hide c5
      have H_c6 := hide c6
      have H_kF := hide kF
      clear kB k5 k6 k7 kN k9 c5 c6 kF
      subst z8_
      subst z
      clear h0 hd
      rw [if_pos (by rfl)]
      have v1 := (unhide HS).bel (unhide H_kB)
      have q0 := v1.cell (m := 0) rfl
      have q1 := v1.cell (m := 1) rfl
      have q2 := v1.cell (m := 2) rfl
      clear v1
      go_simp
      exact unhide hK _ _ ⟨true, u1, u2, u3, u4, u5, u6, u7, false, qm, m, cm, ms, E, bd, q, cap, cu, ai, de, T, M, rfl, rfl, unhide H_kB, unhide H_k5, unhide H_k6, unhide H_k7, unhide H_kN, (fun h => nomatch h), unhide H_c5, (fun h => ⟨rfl, (unhide H_c6 h).2.1, (unhide H_c6 h).2.2.1, (unhide H_c6 h).2.2.2⟩), (fun h => nomatch h)⟩
    · intro h0 hd K hK
      have z : u1 = false := h0
      have z8_ : u8 = false := by
        cases hu : u8 with
        | false => rfl
        | true => exact nomatch z.symm.trans ((kF hu).2.1)
      have H_kB := hide kB
      have H_k5 := hide k5
      have H_k6 := hide k6
      have H_k7 := hide k7
      have H_kN := hide kN
      have H_k9 := hide k9
      have H_c5 := hide c5
      have H_c6 := hide c6
      have H_kF := hide kF
      clear kB k5 k6 k7 kN k9 c5 c6 kF
      subst z8_
      subst z
      clear h0 hd
      rw [if_pos (by rfl)]
      have v1 := (unhide HP).bel (unhide H_kB)
      have q0 := v1.cell (m := 0) rfl
      have q1 := v1.cell (m := 1) rfl
      have q2 := v1.cell (m := 2) rfl
      clear v1
      go_simp
      exact unhide hK _ _ ⟨u0, true, u2, u3, u4, u5, u6, u7, false, qm, m, cm, ms, E, bd, q, cap, cu, ai, de, T, M, rfl, rfl, unhide H_kB, unhide H_k5, unhide H_k6, unhide H_k7, unhide H_kN, (fun h => nomatch h), unhide H_c5, (fun h => ⟨(unhide H_c6 h).1, rfl, (unhide H_c6 h).2.2.1, (unhide H_c6 h).2.2.2⟩), (fun h => nomatch h)⟩
    · intro h0 hd K hK
      have z : u2 = false := h0
      have z8_ : u8 = false := by
        cases hu : u8 with
        | false => rfl
        | true => exact nomatch z.symm.trans ((kF hu).2.2.1)
      have H_kB := hide kB
      have H_k5 := hide k5
      have H_k6 := hide k6
      have H_k7 := hide k7
      have H_kN := hide kN
      have H_k9 := hide k9
      have H_c5 := hide c5
      have H_c6 := hide c6
      have H_kF := hide kF
      clear kB k5 k6 k7 kN k9 c5 c6 kF
      subst z8_
      subst z
      clear h0 hd
      rw [if_pos (by rfl)]
      go_simp
      exact unhide hK _ _ ⟨u0, u1, true, u3, u4, u5, u6, u7, false, qm, m, cm, ms, E, bd, q, cap, cu, ai, de, T, M, rfl, rfl, unhide H_kB, unhide H_k5, unhide H_k6, unhide H_k7, unhide H_kN, (fun h => nomatch h), unhide H_c5, (fun h => ⟨(unhide H_c6 h).1, (unhide H_c6 h).2.1, rfl, (unhide H_c6 h).2.2.2⟩), (fun h => nomatch h)⟩
    · intro h0 hd K hK
      have z : u3 = false := h0
      have z8_ : u8 = false := by
        cases hu : u8 with
        | false => rfl
        | true => exact nomatch z.symm.trans ((kF hu).2.2.2.1)
      have H_kB := hide kB
      have H_k5 := hide k5
      have H_k6 := hide k6
      have H_k7 := hide k7
      have H_kN := hide kN
      have H_k9 := hide k9
      have H_c5 := hide c5
      have H_c6 := hide c6
      have H_kF := hide kF
      clear kB k5 k6 k7 kN k9 c5 c6 kF
      subst z8_
      subst z
      clear h0 hd
      rw [if_pos (by rfl)]
      have v1 := (unhide HS).bel (unhide H_kB)
      have q0 := v1.cell (m := 0) rfl
      have q1 := v1.cell (m := 1) rfl
      have q2 := v1.cell (m := 2) rfl
      clear v1
      go_simp
      exact unhide hK _ _ ⟨u0, u1, u2, true, u4, u5, u6, u7, false, qm, m, cm, ms, E, bd, q, cap, cu, ai, de, T, M, rfl, rfl, unhide H_kB, unhide H_k5, unhide H_k6, unhide H_k7, unhide H_kN, (fun h => nomatch h), (fun h => ⟨rfl, (unhide H_c5 h).2⟩), unhide H_c6, (fun h => nomatch h)⟩
    · intro h0 hd K hK
      have z : u4 = false := h0
      have z8_ : u8 = false := by
        cases hu : u8 with
        | false => rfl
        | true => exact nomatch z.symm.trans ((kF hu).2.2.2.2.1)
      have H_kB := hide kB
      have H_k5 := hide k5
      have H_k6 := hide k6
      have H_k7 := hide k7
      have H_kN := hide kN
      have H_k9 := hide k9
      have H_c5 := hide c5
      have H_c6 := hide c6
      have H_kF := hide kF
      clear kB k5 k6 k7 kN k9 c5 c6 kF
      subst z8_
      subst z
      clear h0 hd
      rw [if_pos (by rfl)]
      go_simp
      exact unhide hK _ _ ⟨u0, u1, u2, u3, true, u5, u6, u7, false, qm, m, cm, ms, E, bd, q, cap, cu, ai, de, T, M, rfl, rfl, unhide H_kB, unhide H_k5, unhide H_k6, unhide H_k7, unhide H_kN, (fun h => nomatch h), (fun h => ⟨(unhide H_c5 h).1, rfl⟩), unhide H_c6, (fun h => nomatch h)⟩
    · intro h0 hd K hK
      have z : u5 = false := h0
      have z8_ : u8 = false := by
        cases hu : u8 with
        | false => rfl
        | true => exact nomatch z.symm.trans ((kF hu).2.2.2.2.2.1)
      have z6_ : u6 = false := by
        cases hu : u6 with
        | false => rfl
        | true => exact nomatch z.symm.trans ((c6 hu).2.2.2)
      have zd : u3 = true ∧ u4 = true := by
        simp [Region.binds] at hd
        simp [hd]
      have H_kB := hide kB
      have H_k5 := hide k5
      have H_k6 := hide k6
      have H_k7 := hide k7
      have H_kN := hide kN
      have H_k9 := hide k9
      have H_c5 := hide c5
      have H_c6 := hide c6
      have H_kF := hide kF
      clear kB k5 k6 k7 kN k9 c5 c6 kF
      obtain ⟨rfl, rfl⟩ := zd
      subst z8_
      subst z6_
      subst z
      clear h0 hd
      rw [if_pos (by rfl)]
      go_simp
      refine (unhide HCM W (unhide H_kB)).mono ?_
      rintro e w8 ⟨⟨q', cq', ms', m', rfl, hmv, hml, hmb⟩, hb8⟩
      exact unhide hK _ _ ⟨u0, u1, u2, true, true, true, false, u7, false, q', m', cq', ms', E, bd, q, cap, cu, ai, de, T, M, rfl, rfl, (bc (unhide H_kB) hb8), (fun _ _ => ⟨hmv, hml, hmb⟩), (fun h => nomatch h), (fun h => ⟨(unhide H_k7 h).1, Nat.lt_of_lt_of_le (unhide H_k7 h).2.1 hb8.size, fun h2 => ((unhide H_k7 h).2.2 h2).bel hb8⟩), (fun h => nomatch h), (fun h => nomatch h), (fun _ => ⟨rfl, rfl⟩), (fun h => nomatch h), (fun h => nomatch h)⟩
    · intro h0 hd K hK
      have z : u6 = false := h0
      have z8_ : u8 = false := by
        cases hu : u8 with
        | false => rfl
        | true => exact nomatch z.symm.trans ((kF hu).2.2.2.2.2.2.1)
      have zd : u0 = true ∧ u1 = true ∧ u2 = true ∧ u5 = true := by
        simp [Region.binds] at hd
        simp [hd]
      have H_kB := hide kB
      have H_k5 := hide k5
      have H_k6 := hide k6
      have H_k7 := hide k7
      have H_kN := hide kN
      have H_k9 := hide k9
      have H_c5 := hide c5
      have H_c6 := hide c6
      have H_kF := hide kF
      clear kB k5 k6 k7 kN k9 c5 c6 kF
      obtain ⟨rfl, rfl, rfl, rfl⟩ := zd
      subst z8_
      subst z
      clear h0 hd
      rw [if_pos (by rfl)]
      have h5 := unhide H_k5 rfl rfl
      go_simp
      refine (unhide HC12 qm m cm ms W (unhide H_kB) h5.1 h5.2.1 h5.2.2).mono ?_
      rintro e w8 ⟨⟨E', bd', q', cap', cu', ai', de', T', rfl, hro, hrf⟩, hb8⟩
      exact unhide hK _ _ ⟨true, true, true, u3, u4, true, true, u7, false, qm, m, cm, ms, E', bd', q', cap', cu', ai', de', T', M, rfl, rfl, (bc (unhide H_kB) hb8), (fun h hz => ⟨(unhide H_k5 h hz).1.bel hb8, (unhide H_k5 h hz).2⟩), (fun _ => ⟨hro.mono (unhide H_kB).size, hrf⟩), (fun h => ⟨(unhide H_k7 h).1, Nat.lt_of_lt_of_le (unhide H_k7 h).2.1 hb8.size, fun h2 => ((unhide H_k7 h).2.2 h2).bel hb8⟩), (fun _ h => by have h1 := (unhide H_k7 h).2.1; have h2 := hro.ge; omega), (fun h => nomatch h), unhide H_c5, (fun _ => ⟨rfl, rfl, rfl, rfl⟩), (fun h => nomatch h)⟩
    · intro h0 hd K hK
      have z : u7 = false := h0
      have z8_ : u8 = false := by
        cases hu : u8 with
        | false => rfl
        | true => exact nomatch z.symm.trans ((kF hu).2.2.2.2.2.2.2)
      have H_kB := hide kB
      have H_k5 := hide k5
      have H_k6 := hide k6
      have H_k7 := hide k7
      have H_kN := hide kN
      have H_k9 := hide k9
      have H_c5 := hide c5
      have H_c6 := hide c6
      have H_kF := hide kF
      clear kB k5 k6 k7 kN k9 c5 c6 kF
      subst z8_
      subst z
      clear h0 hd
      rw [if_pos (by rfl)]
      go_simp
      exact unhide hK _ _ ⟨u0, u1, u2, u3, u4, u5, u6, true, false, qm, m, cm, ms, E, bd, q, cap, cu, ai, de, T, W.heap.size, rfl, rfl, (bc (unhide H_kB) (ba (Below.refl _ _) _)), (fun h hz => ⟨(unhide H_k5 h hz).1.bel (ba (Below.refl _ _) _), (unhide H_k5 h hz).2⟩), (fun h => ⟨(unhide H_k6 h).1.below (ba (Below.refl _ _) _), (unhide H_k6 h).2⟩), (fun _ => ⟨(unhide H_kB).size, by simp, fun _ => vb_new W 31 [.int .i64 0, .int .i64 0, .int .i64 0, .int .i64 0, .slice none 0 0, .int .i64 0, .int .i64 0, .int .i64 0] _ rfl⟩), (fun h _ => by have h2 := (World.ownsRow.lt (unhide H_k6 h).1 q rfl).2; omega), (fun h => nomatch h), unhide H_c5, unhide H_c6, (fun h => nomatch h)⟩
    · intro h0 hd K hK
      have z : u8 = false := h0
      have zd : u6 = true ∧ u7 = true ∧ u0 = true ∧ u1 = true ∧ u2 = true ∧ u3 = true ∧ u4 = true ∧ u5 = true := by
        simp [Region.binds] at hd
        first | (simp [hd]; done) | (have e6 := c6 (by simp [hd]); have e5 := c5 e6.2.2.2; simp [hd, e6, e5])
      have H_kB := hide kB
      have H_k5 := hide k5
      have H_k6 := hide k6
      have H_k7 := hide k7
      have H_kN := hide kN
      have H_k9 := hide k9
      have H_c5 := hide c5
      have H_c6 := hide c6
      have H_kF := hide kF
      clear kB k5 k6 k7 kN k9 c5 c6 kF
      obtain ⟨rfl, rfl, rfl, rfl, rfl, rfl, rfl, rfl⟩ := zd
      subst z
      clear h0 hd
      rw [if_pos (by rfl)]
      have hq := unhide H_kN rfl rfl
      have vz := (unhide H_k7 rfl).2.2 rfl
      have fz := vz.frozen
      have q0 := vz.cell (m := 0) rfl
      have q1 := vz.cell (m := 1) rfl
      have q2 := vz.cell (m := 2) rfl
      have q3 := vz.cell (m := 3) rfl
      have q4 := vz.cell (m := 4) rfl
      have q5 := vz.cell (m := 5) rfl
      have q6 := vz.cell (m := 6) rfl
      have q7 := vz.cell (m := 7) rfl
      have HVZ := hide vz
      clear vz
      go_simp
      exact unhide hK _ _ ⟨true, true, true, true, true, true, true, true, true, qm, m, cm, ms, E, bd, q, cap, cu, ai, de, T, M, rfl, rfl, (Below.setCell (Below.setCell (Below.setCell (Below.setCell (Below.setCell (Below.setCell (Below.setCell (Below.setCell (unhide H_kB) (unhide H_k7 rfl).1 _) (unhide H_k7 rfl).1 _) (unhide H_k7 rfl).1 _) (unhide H_k7 rfl).1 _) (unhide H_k7 rfl).1 _) (unhide H_k7 rfl).1 _) (unhide H_k7 rfl).1 _) (unhide H_k7 rfl).1 _), (fun _ h => nomatch h), (fun _ => ⟨(unhide H_k6 rfl).1.kept' (fun y hy => by simp only [Value.ownBlock, Option.some.injEq] at hy; subst hy; exact (Below.heap_setCell _ _ _ _ hq).trans ( (Below.heap_setCell _ _ _ _ hq).trans ( (Below.heap_setCell _ _ _ _ hq).trans ( (Below.heap_setCell _ _ _ _ hq).trans ( (Below.heap_setCell _ _ _ _ hq).trans ( (Below.heap_setCell _ _ _ _ hq).trans ( (Below.heap_setCell _ _ _ _ hq).trans (Below.heap_setCell _ _ _ _ hq)))))))), (unhide H_k6 rfl).2⟩), (fun _ => ⟨(unhide H_k7 rfl).1, by simpa [World.setCell] using (unhide H_k7 rfl).2.1, (fun h => nomatch h)⟩), (fun _ _ => hq), (fun _ => ((((((((unhide HVZ).set 0 _).set 1 _).set 2 _).set 3 _).set 4 _).set 5 _).set 6 _).set 7 _), (fun _ => ⟨rfl, rfl⟩), (fun _ => ⟨rfl, rfl, rfl, rfl⟩), (fun _ => ⟨rfl, rfl, rfl, rfl, rfl, rfl, rfl, rfl⟩)⟩
  case hend =>
    rintro Lb A W ⟨u0, u1, u2, u3, u4, u5, u6, u7, u8, qm, m, cm, ms, E, bd, q, cap, cu, ai, de, T, M, rfl, rfl, kB, k5, k6, k7, kN, k9, c5, c6, kF⟩ hL
    have hl : u0 = true ∧ u1 = true ∧ u2 = true ∧ u3 = true ∧ u4 = true ∧ u5 = true ∧ u6 = true ∧ u7 = true ∧ u8 = true := by
      have h2 := congrArg Array.toList hL
      simpa [List.replicate] using h2
    obtain ⟨rfl, rfl, rfl, rfl, rfl, rfl, rfl, rfl, rfl⟩ := hl
    exact unhide HQ _ _ _ _ _ _ _ E bd q cap cu ai de T M W kB (k6 rfl).1 (k6 rfl).2 (k7 rfl).1 (k9 rfl)

end Go.Proofs.Ytbjljofgpbecbaa
