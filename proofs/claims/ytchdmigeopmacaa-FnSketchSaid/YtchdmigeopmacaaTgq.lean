/-
  Two statements of the laws' tight, walked alone.
-/
import Derived.Test.YtchdmigeopmacaaTig
import Derived.Test.YtchdmigeopmacaaQ20
namespace Go.Proofs.Ytchdmigeopmacaa
open Go.ChangeShapes Go.WideShapes Go.ChangeAt Go.RowKit
set_option linter.unusedVariables false
set_option linter.unusedSimpArgs false

noncomputable def reg12 (id : Nat) : Go.Code := match Try.f12.body with | some c => (regOf id c).getD .skip | none => .skip

set_option maxHeartbeats 4000000 in
set_option maxRecDepth 100000 in
theorem tg17 {s0 s2 s3 s4 s6 s8 s10 s11 s12 s13 s14 s15 s16 s17 s18 s19 s20 s21 s22 s23 s24 s25 s26 s27 s28 s29 s30 s31 s32 s33 s34 s35 s36 s37 s38 s39 s40 s41 s42 s43 s44 s45 s46 s47 s48 s49 s50 s51 s52 s53 s54 s55 s56 s57 s58 s59 s60 s61 s62 s63 s64 s65 s66 s67 s68 s69 s70 s71 s72 s73 s74 s75 s76 s77 s78 s79 s80 s81 s82 s83 s84 s85 s86 s87 s88 s89 s90 s91 s92 s93 s94 s95 s96 s97 s98 s99 s100 s101 s102 s103 s104 s105 s106 s107 s108 s109 s110 s111 s112 s113 s114 s115 s116 s117 s118 s119 s120 s121 s122 s123 s124 s125 s126 s127 s128 s129 s130 s131 s132 s133 s134 : Value} {gq n cq pr l cr kr pt ax : Nat} {x y : Int} {V : World} {cur : Array Value} {K_ : Act → World → Prop} (hk : kr < l) (hA : pt < n) (ha : ax < 2) (hgq : gq < V.heap.size)
    (bx : -1000000 ≤ x ∧ x ≤ 1000000) (bY : -1000000 ≤ y ∧ y ≤ 1000000) (hblk : V.heap[gq]? = some (.cells cur 42)) (cA : V.cell? ⟨pr, kr * 4 + 1, none⟩ = some (.int .i64 (pt : Int))) (cx : V.cell? ⟨gq, pt * 2, none⟩ = some (.int .i64 x)) (cy : V.cell? ⟨gq, pt * 2 + 1, none⟩ = some (.int .i64 y))
    (hQ : ∀ (y76 y77 y78 y79 y80 y81 y82 y83 y84 y85 y86 y87 y88 y89 y90 y91 y92 : Value) (W0 W' : World), Below V.heap.size V W0 → W' = (W0.setCell ⟨gq, pt * 2, none⟩ (.int .i64 (lwX ax x))).setCell ⟨gq, pt * 2 + 1, none⟩ (.int .i64 (lwY ax y)) → K_ { tmps := #[s0, .slice (some ⟨pr, 0, none⟩) l cr, s2, s3, s4, .int .i64 ((ax : Int)), s6, .slice (some ⟨gq, 0, none⟩) n cq, s8, .int .i64 ((kr : Int)), s10, s11, s12, s13, s14, s15, s16, s17, s18, s19, s20, s21, s22, s23, s24, s25, s26, s27, s28, s29, s30, s31, s32, s33, s34, s35, s36, s37, s38, s39, s40, s41, s42, s43, s44, s45, s46, s47, s48, s49, s50, s51, s52, s53, s54, s55, s56, s57, s58, s59, s60, s61, s62, s63, s64, s65, s66, s67, s68, s69, s70, s71, s72, s73, s74, s75, y76, y77, y78, y79, y80, y81, y82, y83, y84, y85, y86, y87, y88, y89, y90, y91, y92, s93, s94, s95, s96, s97, s98, s99, s100, s101, s102, s103, s104, s105, s106, s107, s108, s109, s110, s111, s112, s113, s114, s115, s116, s117, s118, s119, s120, s121, s122, s123, s124, s125, s126, s127, s128, s129, s130, s131, s132, s133, s134], defers := [] } W') :
    Go.Code.wp Try.prog (reg12 17) (Only K_) { tmps := #[s0, .slice (some ⟨pr, 0, none⟩) l cr, s2, s3, s4, .int .i64 ((ax : Int)), s6, .slice (some ⟨gq, 0, none⟩) n cq, s8, .int .i64 ((kr : Int)), s10, s11, s12, s13, s14, s15, s16, s17, s18, s19, s20, s21, s22, s23, s24, s25, s26, s27, s28, s29, s30, s31, s32, s33, s34, s35, s36, s37, s38, s39, s40, s41, s42, s43, s44, s45, s46, s47, s48, s49, s50, s51, s52, s53, s54, s55, s56, s57, s58, s59, s60, s61, s62, s63, s64, s65, s66, s67, s68, s69, s70, s71, s72, s73, s74, s75, s76, s77, s78, s79, s80, s81, s82, s83, s84, s85, s86, s87, s88, s89, s90, s91, s92, s93, s94, s95, s96, s97, s98, s99, s100, s101, s102, s103, s104, s105, s106, s107, s108, s109, s110, s111, s112, s113, s114, s115, s116, s117, s118, s119, s120, s121, s122, s123, s124, s125, s126, s127, s128, s129, s130, s131, s132, s133, s134], defers := [] } V := by
  have i1 : (kr : Int) < (l : Int) := by omega
  have i0 : (0 : Int) ≤ (kr : Int) := by omega
  have i2 : (pt : Int) < (n : Int) := by omega
  have i3 : (0 : Int) ≤ (pt : Int) := by omega
  have HQ := hide hQ
  clear hQ
  conv => arg 2; whnf
  refine wp_region_inv (fun Lb A W => ∃ (u0 u1 u2 u3 u4 u5 u6 u7 u8 u9 u10 u11 u12 u13 u14 u15 u16 u17 : Bool), Lb = #[u0, u1, u2, u3, u4, u5, u6, u7, u8, u9, u10, u11, u12, u13, u14, u15, u16, u17] ∧ A = ({ tmps := #[s0, .slice (some ⟨pr, 0, none⟩) l cr, s2, s3, s4, .int .i64 ((ax : Int)), s6, .slice (some ⟨gq, 0, none⟩) n cq, s8, .int .i64 ((kr : Int)), s10, s11, s12, s13, s14, s15, s16, s17, s18, s19, s20, s21, s22, s23, s24, s25, s26, s27, s28, s29, s30, s31, s32, s33, s34, s35, s36, s37, s38, s39, s40, s41, s42, s43, s44, s45, s46, s47, s48, s49, s50, s51, s52, s53, s54, s55, s56, s57, s58, s59, s60, s61, s62, s63, s64, s65, s66, s67, s68, s69, s70, s71, s72, s73, s74, s75, (bif u0 then .slice (some ⟨gq, 0, none⟩) n cq else s76), (bif u1 then .slice (some ⟨pr, 0, none⟩) l cr else s77), (bif u2 then .int .i64 ((kr : Int)) else s78), (bif u3 then .pointer (some ⟨pr, kr * 4, none⟩) else s79), (bif u4 then .pointer (some ⟨pr, kr * 4 + 1, none⟩) else s80), (bif u5 then .int .i64 ((pt : Int)) else s81), (bif u6 then .slice (some ⟨gq, 0, none⟩) n cq else s82), (bif u7 then .slice (some ⟨pr, 0, none⟩) l cr else s83), (bif u8 then .int .i64 ((kr : Int)) else s84), (bif u9 then .pointer (some ⟨pr, kr * 4, none⟩) else s85), (bif u10 then .pointer (some ⟨pr, kr * 4 + 1, none⟩) else s86), (bif u11 then .int .i64 ((pt : Int)) else s87), (bif u12 then .pointer (some ⟨gq, pt * 2, none⟩) else s88), (bif u13 then .agg #[.int .i64 (x), .int .i64 (y)] else s89), (bif u14 then .int .i64 ((ax : Int)) else s90), (bif u15 then .agg #[.int .i64 (lwX ax x), .int .i64 (lwY ax y)] else s91), (bif u16 then .pointer (some ⟨gq, pt * 2, none⟩) else s92), s93, s94, s95, s96, s97, s98, s99, s100, s101, s102, s103, s104, s105, s106, s107, s108, s109, s110, s111, s112, s113, s114, s115, s116, s117, s118, s119, s120, s121, s122, s123, s124, s125, s126, s127, s128, s129, s130, s131, s132, s133, s134], defers := [] } : Act) ∧ (u17 = false → Below V.heap.size V W) ∧ (u17 = true → ∃ W0, Below V.heap.size V W0 ∧ W = (W0.setCell ⟨gq, pt * 2, none⟩ (.int .i64 (lwX ax x))).setCell ⟨gq, pt * 2 + 1, none⟩ (.int .i64 (lwY ax y))) ∧ (u3 = true → u1 = true ∧ u2 = true) ∧ (u4 = true → u3 = true) ∧ (u5 = true → u4 = true) ∧ (u9 = true → u7 = true ∧ u8 = true) ∧ (u10 = true → u9 = true) ∧ (u11 = true → u10 = true) ∧ (u12 = true → u6 = true ∧ u11 = true) ∧ (u13 = true → u12 = true) ∧ (u15 = true → u13 = true ∧ u14 = true) ∧ (u16 = true → u0 = true ∧ u5 = true) ∧ (u17 = true → u0 = true ∧ u1 = true ∧ u2 = true ∧ u3 = true ∧ u4 = true ∧ u5 = true ∧ u6 = true ∧ u7 = true ∧ u8 = true ∧ u9 = true ∧ u10 = true ∧ u11 = true ∧ u12 = true ∧ u13 = true ∧ u14 = true ∧ u15 = true ∧ u16 = true)) (by kernel_rfl) (by kernel_rfl) ?h0 ?hstep ?hend
  case h0 =>
    exact ⟨false, false, false, false, false, false, false, false, false, false, false, false, false, false, false, false, false, false, rfl, rfl, (fun _ => by first | exact Below.refl _ _ | exact Below.drew (Below.refl _ _)), (fun h => nomatch h), (fun h => nomatch h), (fun h => nomatch h), (fun h => nomatch h), (fun h => nomatch h), (fun h => nomatch h), (fun h => nomatch h), (fun h => nomatch h), (fun h => nomatch h), (fun h => nomatch h), (fun h => nomatch h), (fun h => nomatch h)⟩
  case hstep =>
    rintro Lb A W ⟨u0, u1, u2, u3, u4, u5, u6, u7, u8, u9, u10, u11, u12, u13, u14, u15, u16, u17, rfl, rfl, kB, kZ, c3, c4, c5, c9, c10, c11, c12, c13, c15, c16, kF⟩
    refine ⟨?_, ?_, ?_, ?_, ?_, ?_, ?_, ?_, ?_, ?_, ?_, ?_, ?_, ?_, ?_, ?_, ?_, ?_, trivial⟩
    · intro h0 hd K hK
      have z : u0 = false := h0
      have z17_ : u17 = false := by
        cases hu : u17 with
        | false => rfl
        | true => exact nomatch z.symm.trans ((kF hu).1)
      have H_kB := hide kB
      have H_kZ := hide kZ
      have H_c3 := hide c3
      have H_c4 := hide c4
      have H_c5 := hide c5
      have H_c9 := hide c9
      have H_c10 := hide c10
      have H_c11 := hide c11
      have H_c12 := hide c12
      have H_c13 := hide c13
      have H_c15 := hide c15
      have H_c16 := hide c16
      have H_kF := hide kF
      clear kB kZ c3 c4 c5 c9 c10 c11 c12 c13 c15 c16 kF
      subst z17_
      subst z
      clear h0 hd
      rw [if_pos (by rfl)]
      go_simp
      exact unhide hK _ _ ⟨true, u1, u2, u3, u4, u5, u6, u7, u8, u9, u10, u11, u12, u13, u14, u15, u16, false, rfl, rfl, unhide H_kB, (fun h => nomatch h), unhide H_c3, unhide H_c4, unhide H_c5, unhide H_c9, unhide H_c10, unhide H_c11, unhide H_c12, unhide H_c13, unhide H_c15, (fun h => ⟨rfl, (unhide H_c16 h).2⟩), (fun h => nomatch h)⟩
    · intro h0 hd K hK
      have z : u1 = false := h0
      have z17_ : u17 = false := by
        cases hu : u17 with
        | false => rfl
        | true => exact nomatch z.symm.trans ((kF hu).2.1)
      have H_kB := hide kB
      have H_kZ := hide kZ
      have H_c3 := hide c3
      have H_c4 := hide c4
      have H_c5 := hide c5
      have H_c9 := hide c9
      have H_c10 := hide c10
      have H_c11 := hide c11
      have H_c12 := hide c12
      have H_c13 := hide c13
      have H_c15 := hide c15
      have H_c16 := hide c16
      have H_kF := hide kF
      clear kB kZ c3 c4 c5 c9 c10 c11 c12 c13 c15 c16 kF
      subst z17_
      subst z
      clear h0 hd
      rw [if_pos (by rfl)]
      go_simp
      exact unhide hK _ _ ⟨u0, true, u2, u3, u4, u5, u6, u7, u8, u9, u10, u11, u12, u13, u14, u15, u16, false, rfl, rfl, unhide H_kB, (fun h => nomatch h), (fun h => ⟨rfl, (unhide H_c3 h).2⟩), unhide H_c4, unhide H_c5, unhide H_c9, unhide H_c10, unhide H_c11, unhide H_c12, unhide H_c13, unhide H_c15, unhide H_c16, (fun h => nomatch h)⟩
    · intro h0 hd K hK
      have z : u2 = false := h0
      have z17_ : u17 = false := by
        cases hu : u17 with
        | false => rfl
        | true => exact nomatch z.symm.trans ((kF hu).2.2.1)
      have H_kB := hide kB
      have H_kZ := hide kZ
      have H_c3 := hide c3
      have H_c4 := hide c4
      have H_c5 := hide c5
      have H_c9 := hide c9
      have H_c10 := hide c10
      have H_c11 := hide c11
      have H_c12 := hide c12
      have H_c13 := hide c13
      have H_c15 := hide c15
      have H_c16 := hide c16
      have H_kF := hide kF
      clear kB kZ c3 c4 c5 c9 c10 c11 c12 c13 c15 c16 kF
      subst z17_
      subst z
      clear h0 hd
      rw [if_pos (by rfl)]
      go_simp
      exact unhide hK _ _ ⟨u0, u1, true, u3, u4, u5, u6, u7, u8, u9, u10, u11, u12, u13, u14, u15, u16, false, rfl, rfl, unhide H_kB, (fun h => nomatch h), (fun h => ⟨(unhide H_c3 h).1, rfl⟩), unhide H_c4, unhide H_c5, unhide H_c9, unhide H_c10, unhide H_c11, unhide H_c12, unhide H_c13, unhide H_c15, unhide H_c16, (fun h => nomatch h)⟩
    · intro h0 hd K hK
      have z : u3 = false := h0
      have z17_ : u17 = false := by
        cases hu : u17 with
        | false => rfl
        | true => exact nomatch z.symm.trans ((kF hu).2.2.2.1)
      have zd : u1 = true ∧ u2 = true := by
        simp [Region.binds] at hd
        simp [hd]
      have H_kB := hide kB
      have H_kZ := hide kZ
      have H_c3 := hide c3
      have H_c4 := hide c4
      have H_c5 := hide c5
      have H_c9 := hide c9
      have H_c10 := hide c10
      have H_c11 := hide c11
      have H_c12 := hide c12
      have H_c13 := hide c13
      have H_c15 := hide c15
      have H_c16 := hide c16
      have H_kF := hide kF
      clear kB kZ c3 c4 c5 c9 c10 c11 c12 c13 c15 c16 kF
      obtain ⟨rfl, rfl⟩ := zd
      subst z17_
      subst z
      clear h0 hd
      rw [if_pos (by rfl)]
      go_simp
      exact unhide hK _ _ ⟨u0, true, true, true, u4, u5, u6, u7, u8, u9, u10, u11, u12, u13, u14, u15, u16, false, rfl, rfl, unhide H_kB, (fun h => nomatch h), (fun _ => ⟨rfl, rfl⟩), (fun h => rfl), unhide H_c5, unhide H_c9, unhide H_c10, unhide H_c11, unhide H_c12, unhide H_c13, unhide H_c15, unhide H_c16, (fun h => nomatch h)⟩
    · intro h0 hd K hK
      have z : u4 = false := h0
      have z17_ : u17 = false := by
        cases hu : u17 with
        | false => rfl
        | true => exact nomatch z.symm.trans ((kF hu).2.2.2.2.1)
      have zd : u3 = true := by
        simp [Region.binds] at hd
        simp [hd]
      have H_kB := hide kB
      have H_kZ := hide kZ
      have H_c3 := hide c3
      have H_c4 := hide c4
      have H_c5 := hide c5
      have H_c9 := hide c9
      have H_c10 := hide c10
      have H_c11 := hide c11
      have H_c12 := hide c12
      have H_c13 := hide c13
      have H_c15 := hide c15
      have H_c16 := hide c16
      have H_kF := hide kF
      clear kB kZ c3 c4 c5 c9 c10 c11 c12 c13 c15 c16 kF
      obtain ⟨rfl⟩ := zd
      subst z17_
      subst z
      clear h0 hd
      rw [if_pos (by rfl)]
      go_simp
      exact unhide hK _ _ ⟨u0, u1, u2, true, true, u5, u6, u7, u8, u9, u10, u11, u12, u13, u14, u15, u16, false, rfl, rfl, unhide H_kB, (fun h => nomatch h), unhide H_c3, (fun _ => rfl), (fun h => rfl), unhide H_c9, unhide H_c10, unhide H_c11, unhide H_c12, unhide H_c13, unhide H_c15, unhide H_c16, (fun h => nomatch h)⟩
    · intro h0 hd K hK
      have z : u5 = false := h0
      have z17_ : u17 = false := by
        cases hu : u17 with
        | false => rfl
        | true => exact nomatch z.symm.trans ((kF hu).2.2.2.2.2.1)
      have zd : u4 = true := by
        simp [Region.binds] at hd
        simp [hd]
      have H_kB := hide kB
      have H_kZ := hide kZ
      have H_c3 := hide c3
      have H_c4 := hide c4
      have H_c5 := hide c5
      have H_c9 := hide c9
      have H_c10 := hide c10
      have H_c11 := hide c11
      have H_c12 := hide c12
      have H_c13 := hide c13
      have H_c15 := hide c15
      have H_c16 := hide c16
      have H_kF := hide kF
      clear kB kZ c3 c4 c5 c9 c10 c11 c12 c13 c15 c16 kF
      obtain ⟨rfl⟩ := zd
      subst z17_
      subst z
      clear h0 hd
      rw [if_pos (by rfl)]
      have cc := keep1 (unhide H_kB rfl) cA
      go_simp
      exact unhide hK _ _ ⟨u0, u1, u2, u3, true, true, u6, u7, u8, u9, u10, u11, u12, u13, u14, u15, u16, false, rfl, rfl, unhide H_kB, (fun h => nomatch h), unhide H_c3, unhide H_c4, (fun _ => rfl), unhide H_c9, unhide H_c10, unhide H_c11, unhide H_c12, unhide H_c13, unhide H_c15, (fun h => ⟨(unhide H_c16 h).1, rfl⟩), (fun h => nomatch h)⟩
    · intro h0 hd K hK
      have z : u6 = false := h0
      have z17_ : u17 = false := by
        cases hu : u17 with
        | false => rfl
        | true => exact nomatch z.symm.trans ((kF hu).2.2.2.2.2.2.1)
      have H_kB := hide kB
      have H_kZ := hide kZ
      have H_c3 := hide c3
      have H_c4 := hide c4
      have H_c5 := hide c5
      have H_c9 := hide c9
      have H_c10 := hide c10
      have H_c11 := hide c11
      have H_c12 := hide c12
      have H_c13 := hide c13
      have H_c15 := hide c15
      have H_c16 := hide c16
      have H_kF := hide kF
      clear kB kZ c3 c4 c5 c9 c10 c11 c12 c13 c15 c16 kF
      subst z17_
      subst z
      clear h0 hd
      rw [if_pos (by rfl)]
      go_simp
      exact unhide hK _ _ ⟨u0, u1, u2, u3, u4, u5, true, u7, u8, u9, u10, u11, u12, u13, u14, u15, u16, false, rfl, rfl, unhide H_kB, (fun h => nomatch h), unhide H_c3, unhide H_c4, unhide H_c5, unhide H_c9, unhide H_c10, unhide H_c11, (fun h => ⟨rfl, (unhide H_c12 h).2⟩), unhide H_c13, unhide H_c15, unhide H_c16, (fun h => nomatch h)⟩
    · intro h0 hd K hK
      have z : u7 = false := h0
      have z17_ : u17 = false := by
        cases hu : u17 with
        | false => rfl
        | true => exact nomatch z.symm.trans ((kF hu).2.2.2.2.2.2.2.1)
      have H_kB := hide kB
      have H_kZ := hide kZ
      have H_c3 := hide c3
      have H_c4 := hide c4
      have H_c5 := hide c5
      have H_c9 := hide c9
      have H_c10 := hide c10
      have H_c11 := hide c11
      have H_c12 := hide c12
      have H_c13 := hide c13
      have H_c15 := hide c15
      have H_c16 := hide c16
      have H_kF := hide kF
      clear kB kZ c3 c4 c5 c9 c10 c11 c12 c13 c15 c16 kF
      subst z17_
      subst z
      clear h0 hd
      rw [if_pos (by rfl)]
      go_simp
      exact unhide hK _ _ ⟨u0, u1, u2, u3, u4, u5, u6, true, u8, u9, u10, u11, u12, u13, u14, u15, u16, false, rfl, rfl, unhide H_kB, (fun h => nomatch h), unhide H_c3, unhide H_c4, unhide H_c5, (fun h => ⟨rfl, (unhide H_c9 h).2⟩), unhide H_c10, unhide H_c11, unhide H_c12, unhide H_c13, unhide H_c15, unhide H_c16, (fun h => nomatch h)⟩
    · intro h0 hd K hK
      have z : u8 = false := h0
      have z17_ : u17 = false := by
        cases hu : u17 with
        | false => rfl
        | true => exact nomatch z.symm.trans ((kF hu).2.2.2.2.2.2.2.2.1)
      have H_kB := hide kB
      have H_kZ := hide kZ
      have H_c3 := hide c3
      have H_c4 := hide c4
      have H_c5 := hide c5
      have H_c9 := hide c9
      have H_c10 := hide c10
      have H_c11 := hide c11
      have H_c12 := hide c12
      have H_c13 := hide c13
      have H_c15 := hide c15
      have H_c16 := hide c16
      have H_kF := hide kF
      clear kB kZ c3 c4 c5 c9 c10 c11 c12 c13 c15 c16 kF
      subst z17_
      subst z
      clear h0 hd
      rw [if_pos (by rfl)]
      go_simp
      exact unhide hK _ _ ⟨u0, u1, u2, u3, u4, u5, u6, u7, true, u9, u10, u11, u12, u13, u14, u15, u16, false, rfl, rfl, unhide H_kB, (fun h => nomatch h), unhide H_c3, unhide H_c4, unhide H_c5, (fun h => ⟨(unhide H_c9 h).1, rfl⟩), unhide H_c10, unhide H_c11, unhide H_c12, unhide H_c13, unhide H_c15, unhide H_c16, (fun h => nomatch h)⟩
    · intro h0 hd K hK
      have z : u9 = false := h0
      have z17_ : u17 = false := by
        cases hu : u17 with
        | false => rfl
        | true => exact nomatch z.symm.trans ((kF hu).2.2.2.2.2.2.2.2.2.1)
      have zd : u7 = true ∧ u8 = true := by
        simp [Region.binds] at hd
        simp [hd]
      have H_kB := hide kB
      have H_kZ := hide kZ
      have H_c3 := hide c3
      have H_c4 := hide c4
      have H_c5 := hide c5
      have H_c9 := hide c9
      have H_c10 := hide c10
      have H_c11 := hide c11
      have H_c12 := hide c12
      have H_c13 := hide c13
      have H_c15 := hide c15
      have H_c16 := hide c16
      have H_kF := hide kF
      clear kB kZ c3 c4 c5 c9 c10 c11 c12 c13 c15 c16 kF
      obtain ⟨rfl, rfl⟩ := zd
      subst z17_
      subst z
      clear h0 hd
      rw [if_pos (by rfl)]
      go_simp
      exact unhide hK _ _ ⟨u0, u1, u2, u3, u4, u5, u6, true, true, true, u10, u11, u12, u13, u14, u15, u16, false, rfl, rfl, unhide H_kB, (fun h => nomatch h), unhide H_c3, unhide H_c4, unhide H_c5, (fun _ => ⟨rfl, rfl⟩), (fun h => rfl), unhide H_c11, unhide H_c12, unhide H_c13, unhide H_c15, unhide H_c16, (fun h => nomatch h)⟩
    · intro h0 hd K hK
      have z : u10 = false := h0
      have z17_ : u17 = false := by
        cases hu : u17 with
        | false => rfl
        | true => exact nomatch z.symm.trans ((kF hu).2.2.2.2.2.2.2.2.2.2.1)
      have zd : u9 = true := by
        simp [Region.binds] at hd
        simp [hd]
      have H_kB := hide kB
      have H_kZ := hide kZ
      have H_c3 := hide c3
      have H_c4 := hide c4
      have H_c5 := hide c5
      have H_c9 := hide c9
      have H_c10 := hide c10
      have H_c11 := hide c11
      have H_c12 := hide c12
      have H_c13 := hide c13
      have H_c15 := hide c15
      have H_c16 := hide c16
      have H_kF := hide kF
      clear kB kZ c3 c4 c5 c9 c10 c11 c12 c13 c15 c16 kF
      obtain ⟨rfl⟩ := zd
      subst z17_
      subst z
      clear h0 hd
      rw [if_pos (by rfl)]
      go_simp
      exact unhide hK _ _ ⟨u0, u1, u2, u3, u4, u5, u6, u7, u8, true, true, u11, u12, u13, u14, u15, u16, false, rfl, rfl, unhide H_kB, (fun h => nomatch h), unhide H_c3, unhide H_c4, unhide H_c5, unhide H_c9, (fun _ => rfl), (fun h => rfl), unhide H_c12, unhide H_c13, unhide H_c15, unhide H_c16, (fun h => nomatch h)⟩
    · intro h0 hd K hK
      have z : u11 = false := h0
      have z17_ : u17 = false := by
        cases hu : u17 with
        | false => rfl
        | true => exact nomatch z.symm.trans ((kF hu).2.2.2.2.2.2.2.2.2.2.2.1)
      have zd : u10 = true := by
        simp [Region.binds] at hd
        simp [hd]
      have H_kB := hide kB
      have H_kZ := hide kZ
      have H_c3 := hide c3
      have H_c4 := hide c4
      have H_c5 := hide c5
      have H_c9 := hide c9
      have H_c10 := hide c10
      have H_c11 := hide c11
      have H_c12 := hide c12
      have H_c13 := hide c13
      have H_c15 := hide c15
      have H_c16 := hide c16
      have H_kF := hide kF
      clear kB kZ c3 c4 c5 c9 c10 c11 c12 c13 c15 c16 kF
      obtain ⟨rfl⟩ := zd
      subst z17_
      subst z
      clear h0 hd
      rw [if_pos (by rfl)]
      have cc := keep1 (unhide H_kB rfl) cA
      go_simp
      exact unhide hK _ _ ⟨u0, u1, u2, u3, u4, u5, u6, u7, u8, u9, true, true, u12, u13, u14, u15, u16, false, rfl, rfl, unhide H_kB, (fun h => nomatch h), unhide H_c3, unhide H_c4, unhide H_c5, unhide H_c9, unhide H_c10, (fun _ => rfl), (fun h => ⟨(unhide H_c12 h).1, rfl⟩), unhide H_c13, unhide H_c15, unhide H_c16, (fun h => nomatch h)⟩
    · intro h0 hd K hK
      have z : u12 = false := h0
      have z17_ : u17 = false := by
        cases hu : u17 with
        | false => rfl
        | true => exact nomatch z.symm.trans ((kF hu).2.2.2.2.2.2.2.2.2.2.2.2.1)
      have zd : u6 = true ∧ u11 = true := by
        simp [Region.binds] at hd
        simp [hd]
      have H_kB := hide kB
      have H_kZ := hide kZ
      have H_c3 := hide c3
      have H_c4 := hide c4
      have H_c5 := hide c5
      have H_c9 := hide c9
      have H_c10 := hide c10
      have H_c11 := hide c11
      have H_c12 := hide c12
      have H_c13 := hide c13
      have H_c15 := hide c15
      have H_c16 := hide c16
      have H_kF := hide kF
      clear kB kZ c3 c4 c5 c9 c10 c11 c12 c13 c15 c16 kF
      obtain ⟨rfl, rfl⟩ := zd
      subst z17_
      subst z
      clear h0 hd
      rw [if_pos (by rfl)]
      go_simp
      exact unhide hK _ _ ⟨u0, u1, u2, u3, u4, u5, true, u7, u8, u9, u10, true, true, u13, u14, u15, u16, false, rfl, rfl, unhide H_kB, (fun h => nomatch h), unhide H_c3, unhide H_c4, unhide H_c5, unhide H_c9, unhide H_c10, unhide H_c11, (fun _ => ⟨rfl, rfl⟩), (fun h => rfl), unhide H_c15, unhide H_c16, (fun h => nomatch h)⟩
    · intro h0 hd K hK
      have z : u13 = false := h0
      have z17_ : u17 = false := by
        cases hu : u17 with
        | false => rfl
        | true => exact nomatch z.symm.trans ((kF hu).2.2.2.2.2.2.2.2.2.2.2.2.2.1)
      have zd : u12 = true := by
        simp [Region.binds] at hd
        simp [hd]
      have H_kB := hide kB
      have H_kZ := hide kZ
      have H_c3 := hide c3
      have H_c4 := hide c4
      have H_c5 := hide c5
      have H_c9 := hide c9
      have H_c10 := hide c10
      have H_c11 := hide c11
      have H_c12 := hide c12
      have H_c13 := hide c13
      have H_c15 := hide c15
      have H_c16 := hide c16
      have H_kF := hide kF
      clear kB kZ c3 c4 c5 c9 c10 c11 c12 c13 c15 c16 kF
      obtain ⟨rfl⟩ := zd
      subst z17_
      subst z
      clear h0 hd
      rw [if_pos (by rfl)]
      have cc := keep1 (unhide H_kB rfl) cx
      have cd := keep1 (unhide H_kB rfl) cy
      go_simp
      exact unhide hK _ _ ⟨u0, u1, u2, u3, u4, u5, u6, u7, u8, u9, u10, u11, true, true, u14, u15, u16, false, rfl, rfl, unhide H_kB, (fun h => nomatch h), unhide H_c3, unhide H_c4, unhide H_c5, unhide H_c9, unhide H_c10, unhide H_c11, unhide H_c12, (fun _ => rfl), (fun h => ⟨rfl, (unhide H_c15 h).2⟩), unhide H_c16, (fun h => nomatch h)⟩
    · intro h0 hd K hK
      have z : u14 = false := h0
      have z17_ : u17 = false := by
        cases hu : u17 with
        | false => rfl
        | true => exact nomatch z.symm.trans ((kF hu).2.2.2.2.2.2.2.2.2.2.2.2.2.2.1)
      have H_kB := hide kB
      have H_kZ := hide kZ
      have H_c3 := hide c3
      have H_c4 := hide c4
      have H_c5 := hide c5
      have H_c9 := hide c9
      have H_c10 := hide c10
      have H_c11 := hide c11
      have H_c12 := hide c12
      have H_c13 := hide c13
      have H_c15 := hide c15
      have H_c16 := hide c16
      have H_kF := hide kF
      clear kB kZ c3 c4 c5 c9 c10 c11 c12 c13 c15 c16 kF
      subst z17_
      subst z
      clear h0 hd
      rw [if_pos (by rfl)]
      go_simp
      exact unhide hK _ _ ⟨u0, u1, u2, u3, u4, u5, u6, u7, u8, u9, u10, u11, u12, u13, true, u15, u16, false, rfl, rfl, unhide H_kB, (fun h => nomatch h), unhide H_c3, unhide H_c4, unhide H_c5, unhide H_c9, unhide H_c10, unhide H_c11, unhide H_c12, unhide H_c13, (fun h => ⟨(unhide H_c15 h).1, rfl⟩), unhide H_c16, (fun h => nomatch h)⟩
    · intro h0 hd K hK
      have z : u15 = false := h0
      have z17_ : u17 = false := by
        cases hu : u17 with
        | false => rfl
        | true => exact nomatch z.symm.trans ((kF hu).2.2.2.2.2.2.2.2.2.2.2.2.2.2.2.1)
      have zd : u13 = true ∧ u14 = true := by
        simp [Region.binds] at hd
        simp [hd]
      have H_kB := hide kB
      have H_kZ := hide kZ
      have H_c3 := hide c3
      have H_c4 := hide c4
      have H_c5 := hide c5
      have H_c9 := hide c9
      have H_c10 := hide c10
      have H_c11 := hide c11
      have H_c12 := hide c12
      have H_c13 := hide c13
      have H_c15 := hide c15
      have H_c16 := hide c16
      have H_kF := hide kF
      clear kB kZ c3 c4 c5 c9 c10 c11 c12 c13 c15 c16 kF
      obtain ⟨rfl, rfl⟩ := zd
      subst z17_
      subst z
      clear h0 hd
      rw [if_pos (by rfl)]
      go_simp
      refine (lower_any x y ax _ bx bY ha).mono ?_
      rintro e w8 ⟨rfl, hb8⟩
      exact unhide hK _ _ ⟨u0, u1, u2, u3, u4, u5, u6, u7, u8, u9, u10, u11, u12, true, true, true, u16, false, rfl, rfl, (fun _ => bc (unhide H_kB rfl) hb8), (fun h => nomatch h), unhide H_c3, unhide H_c4, unhide H_c5, unhide H_c9, unhide H_c10, unhide H_c11, unhide H_c12, unhide H_c13, (fun _ => ⟨rfl, rfl⟩), unhide H_c16, (fun h => nomatch h)⟩
    · intro h0 hd K hK
      have z : u16 = false := h0
      have z17_ : u17 = false := by
        cases hu : u17 with
        | false => rfl
        | true => exact nomatch z.symm.trans ((kF hu).2.2.2.2.2.2.2.2.2.2.2.2.2.2.2.2)
      have zd : u0 = true ∧ u5 = true := by
        simp [Region.binds] at hd
        simp [hd]
      have H_kB := hide kB
      have H_kZ := hide kZ
      have H_c3 := hide c3
      have H_c4 := hide c4
      have H_c5 := hide c5
      have H_c9 := hide c9
      have H_c10 := hide c10
      have H_c11 := hide c11
      have H_c12 := hide c12
      have H_c13 := hide c13
      have H_c15 := hide c15
      have H_c16 := hide c16
      have H_kF := hide kF
      clear kB kZ c3 c4 c5 c9 c10 c11 c12 c13 c15 c16 kF
      obtain ⟨rfl, rfl⟩ := zd
      subst z17_
      subst z
      clear h0 hd
      rw [if_pos (by rfl)]
      go_simp
      exact unhide hK _ _ ⟨true, u1, u2, u3, u4, true, u6, u7, u8, u9, u10, u11, u12, u13, u14, u15, true, false, rfl, rfl, unhide H_kB, (fun h => nomatch h), unhide H_c3, unhide H_c4, unhide H_c5, unhide H_c9, unhide H_c10, unhide H_c11, unhide H_c12, unhide H_c13, unhide H_c15, (fun _ => ⟨rfl, rfl⟩), (fun h => nomatch h)⟩
    · intro h0 hd K hK
      have z : u17 = false := h0
      have zd : u15 = true ∧ u16 = true ∧ u0 = true ∧ u1 = true ∧ u2 = true ∧ u3 = true ∧ u4 = true ∧ u5 = true ∧ u6 = true ∧ u7 = true ∧ u8 = true ∧ u9 = true ∧ u10 = true ∧ u11 = true ∧ u12 = true ∧ u13 = true ∧ u14 = true := by
        simp [Region.binds] at hd
        simp [hd]
      have H_kB := hide kB
      have H_kZ := hide kZ
      have H_c3 := hide c3
      have H_c4 := hide c4
      have H_c5 := hide c5
      have H_c9 := hide c9
      have H_c10 := hide c10
      have H_c11 := hide c11
      have H_c12 := hide c12
      have H_c13 := hide c13
      have H_c15 := hide c15
      have H_c16 := hide c16
      have H_kF := hide kF
      clear kB kZ c3 c4 c5 c9 c10 c11 c12 c13 c15 c16 kF
      obtain ⟨rfl, rfl, rfl, rfl, rfl, rfl, rfl, rfl, rfl, rfl, rfl, rfl, rfl, rfl, rfl, rfl, rfl⟩ := zd
      subst z
      clear h0 hd
      rw [if_pos (by rfl)]
      have hbk := ((unhide H_kB rfl).block gq hgq).trans hblk
      have cc := keep1 (unhide H_kB rfl) cx
      have cd := keep1 (unhide H_kB rfl) cy
      have cf0 : W.frozen? ⟨gq, pt * 2, none⟩ = false := by simp [World.frozen?, hbk]
      have cf1 : W.frozen? ⟨gq, pt * 2 + 1, none⟩ = false := by simp [World.frozen?, hbk]
      have clt := cell_lt cc
      clear hbk
      go_simp
      exact unhide hK _ _ ⟨true, true, true, true, true, true, true, true, true, true, true, true, true, true, true, true, true, true, rfl, rfl, (fun h => nomatch h), (fun _ => ⟨_, unhide H_kB rfl, rfl⟩), (fun _ => ⟨rfl, rfl⟩), (fun _ => rfl), (fun _ => rfl), (fun _ => ⟨rfl, rfl⟩), (fun _ => rfl), (fun _ => rfl), (fun _ => ⟨rfl, rfl⟩), (fun _ => rfl), (fun _ => ⟨rfl, rfl⟩), (fun _ => ⟨rfl, rfl⟩), (fun _ => ⟨rfl, rfl, rfl, rfl, rfl, rfl, rfl, rfl, rfl, rfl, rfl, rfl, rfl, rfl, rfl, rfl, rfl⟩)⟩
  case hend =>
    rintro Lb A W ⟨u0, u1, u2, u3, u4, u5, u6, u7, u8, u9, u10, u11, u12, u13, u14, u15, u16, u17, rfl, rfl, kB, kZ, c3, c4, c5, c9, c10, c11, c12, c13, c15, c16, kF⟩ hL
    have hl : u0 = true ∧ u1 = true ∧ u2 = true ∧ u3 = true ∧ u4 = true ∧ u5 = true ∧ u6 = true ∧ u7 = true ∧ u8 = true ∧ u9 = true ∧ u10 = true ∧ u11 = true ∧ u12 = true ∧ u13 = true ∧ u14 = true ∧ u15 = true ∧ u16 = true ∧ u17 = true := by
      have h2 := congrArg Array.toList hL
      simpa [List.replicate] using h2
    obtain ⟨rfl, rfl, rfl, rfl, rfl, rfl, rfl, rfl, rfl, rfl, rfl, rfl, rfl, rfl, rfl, rfl, rfl, rfl⟩ := hl
    obtain ⟨W0, hw0, hw1⟩ := kZ rfl
    exact unhide HQ _ _ _ _ _ _ _ _ _ _ _ _ _ _ _ _ _ W0 _ hw0 hw1
set_option maxHeartbeats 4000000 in
set_option maxRecDepth 100000 in
theorem tg19 {s0 s2 s3 s4 s6 s8 s10 s11 s12 s13 s14 s15 s16 s17 s18 s19 s20 s21 s22 s23 s24 s25 s26 s27 s28 s29 s30 s31 s32 s33 s34 s35 s36 s37 s38 s39 s40 s41 s42 s43 s44 s45 s46 s47 s48 s49 s50 s51 s52 s53 s54 s55 s56 s57 s58 s59 s60 s61 s62 s63 s64 s65 s66 s67 s68 s69 s70 s71 s72 s73 s74 s75 s76 s77 s78 s79 s80 s81 s82 s83 s84 s85 s86 s87 s88 s89 s90 s91 s92 s93 s94 s95 s96 s97 s98 s99 s100 s101 s102 s103 s104 s105 s106 s107 s108 s109 s110 s111 s112 s113 s114 s115 s116 s117 s118 s119 s120 s121 s122 s123 s124 s125 s126 s127 s128 s129 s130 s131 s132 s133 s134 : Value} {gq n cq pr l cr kr pt ax : Nat} {x y : Int} {V : World} {cur : Array Value} {K_ : Act → World → Prop} (hk : kr < l) (hA : pt < n) (ha : ax < 2) (hgq : gq < V.heap.size)
    (bx : -1000000 ≤ x ∧ x ≤ 1000000) (bY : -1000000 ≤ y ∧ y ≤ 1000000) (hblk : V.heap[gq]? = some (.cells cur 42)) (cA : V.cell? ⟨pr, kr * 4 + 2, none⟩ = some (.int .i64 (pt : Int))) (cx : V.cell? ⟨gq, pt * 2, none⟩ = some (.int .i64 x)) (cy : V.cell? ⟨gq, pt * 2 + 1, none⟩ = some (.int .i64 y))
    (hQ : ∀ (y110 y111 y112 y113 y114 y115 y116 y117 y118 y119 y120 y121 y122 y123 y124 y125 y126 : Value) (W0 W' : World), Below V.heap.size V W0 → W' = (W0.setCell ⟨gq, pt * 2, none⟩ (.int .i64 (lwX ax x))).setCell ⟨gq, pt * 2 + 1, none⟩ (.int .i64 (lwY ax y)) → K_ { tmps := #[s0, .slice (some ⟨pr, 0, none⟩) l cr, s2, s3, s4, .int .i64 ((ax : Int)), s6, .slice (some ⟨gq, 0, none⟩) n cq, s8, .int .i64 ((kr : Int)), s10, s11, s12, s13, s14, s15, s16, s17, s18, s19, s20, s21, s22, s23, s24, s25, s26, s27, s28, s29, s30, s31, s32, s33, s34, s35, s36, s37, s38, s39, s40, s41, s42, s43, s44, s45, s46, s47, s48, s49, s50, s51, s52, s53, s54, s55, s56, s57, s58, s59, s60, s61, s62, s63, s64, s65, s66, s67, s68, s69, s70, s71, s72, s73, s74, s75, s76, s77, s78, s79, s80, s81, s82, s83, s84, s85, s86, s87, s88, s89, s90, s91, s92, s93, s94, s95, s96, s97, s98, s99, s100, s101, s102, s103, s104, s105, s106, s107, s108, s109, y110, y111, y112, y113, y114, y115, y116, y117, y118, y119, y120, y121, y122, y123, y124, y125, y126, s127, s128, s129, s130, s131, s132, s133, s134], defers := [] } W') :
    Go.Code.wp Try.prog (reg12 19) (Only K_) { tmps := #[s0, .slice (some ⟨pr, 0, none⟩) l cr, s2, s3, s4, .int .i64 ((ax : Int)), s6, .slice (some ⟨gq, 0, none⟩) n cq, s8, .int .i64 ((kr : Int)), s10, s11, s12, s13, s14, s15, s16, s17, s18, s19, s20, s21, s22, s23, s24, s25, s26, s27, s28, s29, s30, s31, s32, s33, s34, s35, s36, s37, s38, s39, s40, s41, s42, s43, s44, s45, s46, s47, s48, s49, s50, s51, s52, s53, s54, s55, s56, s57, s58, s59, s60, s61, s62, s63, s64, s65, s66, s67, s68, s69, s70, s71, s72, s73, s74, s75, s76, s77, s78, s79, s80, s81, s82, s83, s84, s85, s86, s87, s88, s89, s90, s91, s92, s93, s94, s95, s96, s97, s98, s99, s100, s101, s102, s103, s104, s105, s106, s107, s108, s109, s110, s111, s112, s113, s114, s115, s116, s117, s118, s119, s120, s121, s122, s123, s124, s125, s126, s127, s128, s129, s130, s131, s132, s133, s134], defers := [] } V := by
  have i1 : (kr : Int) < (l : Int) := by omega
  have i0 : (0 : Int) ≤ (kr : Int) := by omega
  have i2 : (pt : Int) < (n : Int) := by omega
  have i3 : (0 : Int) ≤ (pt : Int) := by omega
  have HQ := hide hQ
  clear hQ
  conv => arg 2; whnf
  refine wp_region_inv (fun Lb A W => ∃ (u0 u1 u2 u3 u4 u5 u6 u7 u8 u9 u10 u11 u12 u13 u14 u15 u16 u17 : Bool), Lb = #[u0, u1, u2, u3, u4, u5, u6, u7, u8, u9, u10, u11, u12, u13, u14, u15, u16, u17] ∧ A = ({ tmps := #[s0, .slice (some ⟨pr, 0, none⟩) l cr, s2, s3, s4, .int .i64 ((ax : Int)), s6, .slice (some ⟨gq, 0, none⟩) n cq, s8, .int .i64 ((kr : Int)), s10, s11, s12, s13, s14, s15, s16, s17, s18, s19, s20, s21, s22, s23, s24, s25, s26, s27, s28, s29, s30, s31, s32, s33, s34, s35, s36, s37, s38, s39, s40, s41, s42, s43, s44, s45, s46, s47, s48, s49, s50, s51, s52, s53, s54, s55, s56, s57, s58, s59, s60, s61, s62, s63, s64, s65, s66, s67, s68, s69, s70, s71, s72, s73, s74, s75, s76, s77, s78, s79, s80, s81, s82, s83, s84, s85, s86, s87, s88, s89, s90, s91, s92, s93, s94, s95, s96, s97, s98, s99, s100, s101, s102, s103, s104, s105, s106, s107, s108, s109, (bif u0 then .slice (some ⟨gq, 0, none⟩) n cq else s110), (bif u1 then .slice (some ⟨pr, 0, none⟩) l cr else s111), (bif u2 then .int .i64 ((kr : Int)) else s112), (bif u3 then .pointer (some ⟨pr, kr * 4, none⟩) else s113), (bif u4 then .pointer (some ⟨pr, kr * 4 + 2, none⟩) else s114), (bif u5 then .int .i64 ((pt : Int)) else s115), (bif u6 then .slice (some ⟨gq, 0, none⟩) n cq else s116), (bif u7 then .slice (some ⟨pr, 0, none⟩) l cr else s117), (bif u8 then .int .i64 ((kr : Int)) else s118), (bif u9 then .pointer (some ⟨pr, kr * 4, none⟩) else s119), (bif u10 then .pointer (some ⟨pr, kr * 4 + 2, none⟩) else s120), (bif u11 then .int .i64 ((pt : Int)) else s121), (bif u12 then .pointer (some ⟨gq, pt * 2, none⟩) else s122), (bif u13 then .agg #[.int .i64 (x), .int .i64 (y)] else s123), (bif u14 then .int .i64 ((ax : Int)) else s124), (bif u15 then .agg #[.int .i64 (lwX ax x), .int .i64 (lwY ax y)] else s125), (bif u16 then .pointer (some ⟨gq, pt * 2, none⟩) else s126), s127, s128, s129, s130, s131, s132, s133, s134], defers := [] } : Act) ∧ (u17 = false → Below V.heap.size V W) ∧ (u17 = true → ∃ W0, Below V.heap.size V W0 ∧ W = (W0.setCell ⟨gq, pt * 2, none⟩ (.int .i64 (lwX ax x))).setCell ⟨gq, pt * 2 + 1, none⟩ (.int .i64 (lwY ax y))) ∧ (u3 = true → u1 = true ∧ u2 = true) ∧ (u4 = true → u3 = true) ∧ (u5 = true → u4 = true) ∧ (u9 = true → u7 = true ∧ u8 = true) ∧ (u10 = true → u9 = true) ∧ (u11 = true → u10 = true) ∧ (u12 = true → u6 = true ∧ u11 = true) ∧ (u13 = true → u12 = true) ∧ (u15 = true → u13 = true ∧ u14 = true) ∧ (u16 = true → u0 = true ∧ u5 = true) ∧ (u17 = true → u0 = true ∧ u1 = true ∧ u2 = true ∧ u3 = true ∧ u4 = true ∧ u5 = true ∧ u6 = true ∧ u7 = true ∧ u8 = true ∧ u9 = true ∧ u10 = true ∧ u11 = true ∧ u12 = true ∧ u13 = true ∧ u14 = true ∧ u15 = true ∧ u16 = true)) (by kernel_rfl) (by kernel_rfl) ?h0 ?hstep ?hend
  case h0 =>
    exact ⟨false, false, false, false, false, false, false, false, false, false, false, false, false, false, false, false, false, false, rfl, rfl, (fun _ => by first | exact Below.refl _ _ | exact Below.drew (Below.refl _ _)), (fun h => nomatch h), (fun h => nomatch h), (fun h => nomatch h), (fun h => nomatch h), (fun h => nomatch h), (fun h => nomatch h), (fun h => nomatch h), (fun h => nomatch h), (fun h => nomatch h), (fun h => nomatch h), (fun h => nomatch h), (fun h => nomatch h)⟩
  case hstep =>
    rintro Lb A W ⟨u0, u1, u2, u3, u4, u5, u6, u7, u8, u9, u10, u11, u12, u13, u14, u15, u16, u17, rfl, rfl, kB, kZ, c3, c4, c5, c9, c10, c11, c12, c13, c15, c16, kF⟩
    refine ⟨?_, ?_, ?_, ?_, ?_, ?_, ?_, ?_, ?_, ?_, ?_, ?_, ?_, ?_, ?_, ?_, ?_, ?_, trivial⟩
    · intro h0 hd K hK
      have z : u0 = false := h0
      have z17_ : u17 = false := by
        cases hu : u17 with
        | false => rfl
        | true => exact nomatch z.symm.trans ((kF hu).1)
      have H_kB := hide kB
      have H_kZ := hide kZ
      have H_c3 := hide c3
      have H_c4 := hide c4
      have H_c5 := hide c5
      have H_c9 := hide c9
      have H_c10 := hide c10
      have H_c11 := hide c11
      have H_c12 := hide c12
      have H_c13 := hide c13
      have H_c15 := hide c15
      have H_c16 := hide c16
      have H_kF := hide kF
      clear kB kZ c3 c4 c5 c9 c10 c11 c12 c13 c15 c16 kF
      subst z17_
      subst z
      clear h0 hd
      rw [if_pos (by rfl)]
      go_simp
      exact unhide hK _ _ ⟨true, u1, u2, u3, u4, u5, u6, u7, u8, u9, u10, u11, u12, u13, u14, u15, u16, false, rfl, rfl, unhide H_kB, (fun h => nomatch h), unhide H_c3, unhide H_c4, unhide H_c5, unhide H_c9, unhide H_c10, unhide H_c11, unhide H_c12, unhide H_c13, unhide H_c15, (fun h => ⟨rfl, (unhide H_c16 h).2⟩), (fun h => nomatch h)⟩
    · intro h0 hd K hK
      have z : u1 = false := h0
      have z17_ : u17 = false := by
        cases hu : u17 with
        | false => rfl
        | true => exact nomatch z.symm.trans ((kF hu).2.1)
      have H_kB := hide kB
      have H_kZ := hide kZ
      have H_c3 := hide c3
      have H_c4 := hide c4
      have H_c5 := hide c5
      have H_c9 := hide c9
      have H_c10 := hide c10
      have H_c11 := hide c11
      have H_c12 := hide c12
      have H_c13 := hide c13
      have H_c15 := hide c15
      have H_c16 := hide c16
      have H_kF := hide kF
      clear kB kZ c3 c4 c5 c9 c10 c11 c12 c13 c15 c16 kF
      subst z17_
      subst z
      clear h0 hd
      rw [if_pos (by rfl)]
      go_simp
      exact unhide hK _ _ ⟨u0, true, u2, u3, u4, u5, u6, u7, u8, u9, u10, u11, u12, u13, u14, u15, u16, false, rfl, rfl, unhide H_kB, (fun h => nomatch h), (fun h => ⟨rfl, (unhide H_c3 h).2⟩), unhide H_c4, unhide H_c5, unhide H_c9, unhide H_c10, unhide H_c11, unhide H_c12, unhide H_c13, unhide H_c15, unhide H_c16, (fun h => nomatch h)⟩
    · intro h0 hd K hK
      have z : u2 = false := h0
      have z17_ : u17 = false := by
        cases hu : u17 with
        | false => rfl
        | true => exact nomatch z.symm.trans ((kF hu).2.2.1)
      have H_kB := hide kB
      have H_kZ := hide kZ
      have H_c3 := hide c3
      have H_c4 := hide c4
      have H_c5 := hide c5
      have H_c9 := hide c9
      have H_c10 := hide c10
      have H_c11 := hide c11
      have H_c12 := hide c12
      have H_c13 := hide c13
      have H_c15 := hide c15
      have H_c16 := hide c16
      have H_kF := hide kF
      clear kB kZ c3 c4 c5 c9 c10 c11 c12 c13 c15 c16 kF
      subst z17_
      subst z
      clear h0 hd
      rw [if_pos (by rfl)]
      go_simp
      exact unhide hK _ _ ⟨u0, u1, true, u3, u4, u5, u6, u7, u8, u9, u10, u11, u12, u13, u14, u15, u16, false, rfl, rfl, unhide H_kB, (fun h => nomatch h), (fun h => ⟨(unhide H_c3 h).1, rfl⟩), unhide H_c4, unhide H_c5, unhide H_c9, unhide H_c10, unhide H_c11, unhide H_c12, unhide H_c13, unhide H_c15, unhide H_c16, (fun h => nomatch h)⟩
    · intro h0 hd K hK
      have z : u3 = false := h0
      have z17_ : u17 = false := by
        cases hu : u17 with
        | false => rfl
        | true => exact nomatch z.symm.trans ((kF hu).2.2.2.1)
      have zd : u1 = true ∧ u2 = true := by
        simp [Region.binds] at hd
        simp [hd]
      have H_kB := hide kB
      have H_kZ := hide kZ
      have H_c3 := hide c3
      have H_c4 := hide c4
      have H_c5 := hide c5
      have H_c9 := hide c9
      have H_c10 := hide c10
      have H_c11 := hide c11
      have H_c12 := hide c12
      have H_c13 := hide c13
      have H_c15 := hide c15
      have H_c16 := hide c16
      have H_kF := hide kF
      clear kB kZ c3 c4 c5 c9 c10 c11 c12 c13 c15 c16 kF
      obtain ⟨rfl, rfl⟩ := zd
      subst z17_
      subst z
      clear h0 hd
      rw [if_pos (by rfl)]
      go_simp
      exact unhide hK _ _ ⟨u0, true, true, true, u4, u5, u6, u7, u8, u9, u10, u11, u12, u13, u14, u15, u16, false, rfl, rfl, unhide H_kB, (fun h => nomatch h), (fun _ => ⟨rfl, rfl⟩), (fun h => rfl), unhide H_c5, unhide H_c9, unhide H_c10, unhide H_c11, unhide H_c12, unhide H_c13, unhide H_c15, unhide H_c16, (fun h => nomatch h)⟩
    · intro h0 hd K hK
      have z : u4 = false := h0
      have z17_ : u17 = false := by
        cases hu : u17 with
        | false => rfl
        | true => exact nomatch z.symm.trans ((kF hu).2.2.2.2.1)
      have zd : u3 = true := by
        simp [Region.binds] at hd
        simp [hd]
      have H_kB := hide kB
      have H_kZ := hide kZ
      have H_c3 := hide c3
      have H_c4 := hide c4
      have H_c5 := hide c5
      have H_c9 := hide c9
      have H_c10 := hide c10
      have H_c11 := hide c11
      have H_c12 := hide c12
      have H_c13 := hide c13
      have H_c15 := hide c15
      have H_c16 := hide c16
      have H_kF := hide kF
      clear kB kZ c3 c4 c5 c9 c10 c11 c12 c13 c15 c16 kF
      obtain ⟨rfl⟩ := zd
      subst z17_
      subst z
      clear h0 hd
      rw [if_pos (by rfl)]
      go_simp
      exact unhide hK _ _ ⟨u0, u1, u2, true, true, u5, u6, u7, u8, u9, u10, u11, u12, u13, u14, u15, u16, false, rfl, rfl, unhide H_kB, (fun h => nomatch h), unhide H_c3, (fun _ => rfl), (fun h => rfl), unhide H_c9, unhide H_c10, unhide H_c11, unhide H_c12, unhide H_c13, unhide H_c15, unhide H_c16, (fun h => nomatch h)⟩
    · intro h0 hd K hK
      have z : u5 = false := h0
      have z17_ : u17 = false := by
        cases hu : u17 with
        | false => rfl
        | true => exact nomatch z.symm.trans ((kF hu).2.2.2.2.2.1)
      have zd : u4 = true := by
        simp [Region.binds] at hd
        simp [hd]
      have H_kB := hide kB
      have H_kZ := hide kZ
      have H_c3 := hide c3
      have H_c4 := hide c4
      have H_c5 := hide c5
      have H_c9 := hide c9
      have H_c10 := hide c10
      have H_c11 := hide c11
      have H_c12 := hide c12
      have H_c13 := hide c13
      have H_c15 := hide c15
      have H_c16 := hide c16
      have H_kF := hide kF
      clear kB kZ c3 c4 c5 c9 c10 c11 c12 c13 c15 c16 kF
      obtain ⟨rfl⟩ := zd
      subst z17_
      subst z
      clear h0 hd
      rw [if_pos (by rfl)]
      have cc := keep1 (unhide H_kB rfl) cA
      go_simp
      exact unhide hK _ _ ⟨u0, u1, u2, u3, true, true, u6, u7, u8, u9, u10, u11, u12, u13, u14, u15, u16, false, rfl, rfl, unhide H_kB, (fun h => nomatch h), unhide H_c3, unhide H_c4, (fun _ => rfl), unhide H_c9, unhide H_c10, unhide H_c11, unhide H_c12, unhide H_c13, unhide H_c15, (fun h => ⟨(unhide H_c16 h).1, rfl⟩), (fun h => nomatch h)⟩
    · intro h0 hd K hK
      have z : u6 = false := h0
      have z17_ : u17 = false := by
        cases hu : u17 with
        | false => rfl
        | true => exact nomatch z.symm.trans ((kF hu).2.2.2.2.2.2.1)
      have H_kB := hide kB
      have H_kZ := hide kZ
      have H_c3 := hide c3
      have H_c4 := hide c4
      have H_c5 := hide c5
      have H_c9 := hide c9
      have H_c10 := hide c10
      have H_c11 := hide c11
      have H_c12 := hide c12
      have H_c13 := hide c13
      have H_c15 := hide c15
      have H_c16 := hide c16
      have H_kF := hide kF
      clear kB kZ c3 c4 c5 c9 c10 c11 c12 c13 c15 c16 kF
      subst z17_
      subst z
      clear h0 hd
      rw [if_pos (by rfl)]
      go_simp
      exact unhide hK _ _ ⟨u0, u1, u2, u3, u4, u5, true, u7, u8, u9, u10, u11, u12, u13, u14, u15, u16, false, rfl, rfl, unhide H_kB, (fun h => nomatch h), unhide H_c3, unhide H_c4, unhide H_c5, unhide H_c9, unhide H_c10, unhide H_c11, (fun h => ⟨rfl, (unhide H_c12 h).2⟩), unhide H_c13, unhide H_c15, unhide H_c16, (fun h => nomatch h)⟩
    · intro h0 hd K hK
      have z : u7 = false := h0
      have z17_ : u17 = false := by
        cases hu : u17 with
        | false => rfl
        | true => exact nomatch z.symm.trans ((kF hu).2.2.2.2.2.2.2.1)
      have H_kB := hide kB
      have H_kZ := hide kZ
      have H_c3 := hide c3
      have H_c4 := hide c4
      have H_c5 := hide c5
      have H_c9 := hide c9
      have H_c10 := hide c10
      have H_c11 := hide c11
      have H_c12 := hide c12
      have H_c13 := hide c13
      have H_c15 := hide c15
      have H_c16 := hide c16
      have H_kF := hide kF
      clear kB kZ c3 c4 c5 c9 c10 c11 c12 c13 c15 c16 kF
      subst z17_
      subst z
      clear h0 hd
      rw [if_pos (by rfl)]
      go_simp
      exact unhide hK _ _ ⟨u0, u1, u2, u3, u4, u5, u6, true, u8, u9, u10, u11, u12, u13, u14, u15, u16, false, rfl, rfl, unhide H_kB, (fun h => nomatch h), unhide H_c3, unhide H_c4, unhide H_c5, (fun h => ⟨rfl, (unhide H_c9 h).2⟩), unhide H_c10, unhide H_c11, unhide H_c12, unhide H_c13, unhide H_c15, unhide H_c16, (fun h => nomatch h)⟩
    · intro h0 hd K hK
      have z : u8 = false := h0
      have z17_ : u17 = false := by
        cases hu : u17 with
        | false => rfl
        | true => exact nomatch z.symm.trans ((kF hu).2.2.2.2.2.2.2.2.1)
      have H_kB := hide kB
      have H_kZ := hide kZ
      have H_c3 := hide c3
      have H_c4 := hide c4
      have H_c5 := hide c5
      have H_c9 := hide c9
      have H_c10 := hide c10
      have H_c11 := hide c11
      have H_c12 := hide c12
      have H_c13 := hide c13
      have H_c15 := hide c15
      have H_c16 := hide c16
      have H_kF := hide kF
      clear kB kZ c3 c4 c5 c9 c10 c11 c12 c13 c15 c16 kF
      subst z17_
      subst z
      clear h0 hd
      rw [if_pos (by rfl)]
      go_simp
      exact unhide hK _ _ ⟨u0, u1, u2, u3, u4, u5, u6, u7, true, u9, u10, u11, u12, u13, u14, u15, u16, false, rfl, rfl, unhide H_kB, (fun h => nomatch h), unhide H_c3, unhide H_c4, unhide H_c5, (fun h => ⟨(unhide H_c9 h).1, rfl⟩), unhide H_c10, unhide H_c11, unhide H_c12, unhide H_c13, unhide H_c15, unhide H_c16, (fun h => nomatch h)⟩
    · intro h0 hd K hK
      have z : u9 = false := h0
      have z17_ : u17 = false := by
        cases hu : u17 with
        | false => rfl
        | true => exact nomatch z.symm.trans ((kF hu).2.2.2.2.2.2.2.2.2.1)
      have zd : u7 = true ∧ u8 = true := by
        simp [Region.binds] at hd
        simp [hd]
      have H_kB := hide kB
      have H_kZ := hide kZ
      have H_c3 := hide c3
      have H_c4 := hide c4
      have H_c5 := hide c5
      have H_c9 := hide c9
      have H_c10 := hide c10
      have H_c11 := hide c11
      have H_c12 := hide c12
      have H_c13 := hide c13
      have H_c15 := hide c15
      have H_c16 := hide c16
      have H_kF := hide kF
      clear kB kZ c3 c4 c5 c9 c10 c11 c12 c13 c15 c16 kF
      obtain ⟨rfl, rfl⟩ := zd
      subst z17_
      subst z
      clear h0 hd
      rw [if_pos (by rfl)]
      go_simp
      exact unhide hK _ _ ⟨u0, u1, u2, u3, u4, u5, u6, true, true, true, u10, u11, u12, u13, u14, u15, u16, false, rfl, rfl, unhide H_kB, (fun h => nomatch h), unhide H_c3, unhide H_c4, unhide H_c5, (fun _ => ⟨rfl, rfl⟩), (fun h => rfl), unhide H_c11, unhide H_c12, unhide H_c13, unhide H_c15, unhide H_c16, (fun h => nomatch h)⟩
    · intro h0 hd K hK
      have z : u10 = false := h0
      have z17_ : u17 = false := by
        cases hu : u17 with
        | false => rfl
        | true => exact nomatch z.symm.trans ((kF hu).2.2.2.2.2.2.2.2.2.2.1)
      have zd : u9 = true := by
        simp [Region.binds] at hd
        simp [hd]
      have H_kB := hide kB
      have H_kZ := hide kZ
      have H_c3 := hide c3
      have H_c4 := hide c4
      have H_c5 := hide c5
      have H_c9 := hide c9
      have H_c10 := hide c10
      have H_c11 := hide c11
      have H_c12 := hide c12
      have H_c13 := hide c13
      have H_c15 := hide c15
      have H_c16 := hide c16
      have H_kF := hide kF
      clear kB kZ c3 c4 c5 c9 c10 c11 c12 c13 c15 c16 kF
      obtain ⟨rfl⟩ := zd
      subst z17_
      subst z
      clear h0 hd
      rw [if_pos (by rfl)]
      go_simp
      exact unhide hK _ _ ⟨u0, u1, u2, u3, u4, u5, u6, u7, u8, true, true, u11, u12, u13, u14, u15, u16, false, rfl, rfl, unhide H_kB, (fun h => nomatch h), unhide H_c3, unhide H_c4, unhide H_c5, unhide H_c9, (fun _ => rfl), (fun h => rfl), unhide H_c12, unhide H_c13, unhide H_c15, unhide H_c16, (fun h => nomatch h)⟩
    · intro h0 hd K hK
      have z : u11 = false := h0
      have z17_ : u17 = false := by
        cases hu : u17 with
        | false => rfl
        | true => exact nomatch z.symm.trans ((kF hu).2.2.2.2.2.2.2.2.2.2.2.1)
      have zd : u10 = true := by
        simp [Region.binds] at hd
        simp [hd]
      have H_kB := hide kB
      have H_kZ := hide kZ
      have H_c3 := hide c3
      have H_c4 := hide c4
      have H_c5 := hide c5
      have H_c9 := hide c9
      have H_c10 := hide c10
      have H_c11 := hide c11
      have H_c12 := hide c12
      have H_c13 := hide c13
      have H_c15 := hide c15
      have H_c16 := hide c16
      have H_kF := hide kF
      clear kB kZ c3 c4 c5 c9 c10 c11 c12 c13 c15 c16 kF
      obtain ⟨rfl⟩ := zd
      subst z17_
      subst z
      clear h0 hd
      rw [if_pos (by rfl)]
      have cc := keep1 (unhide H_kB rfl) cA
      go_simp
      exact unhide hK _ _ ⟨u0, u1, u2, u3, u4, u5, u6, u7, u8, u9, true, true, u12, u13, u14, u15, u16, false, rfl, rfl, unhide H_kB, (fun h => nomatch h), unhide H_c3, unhide H_c4, unhide H_c5, unhide H_c9, unhide H_c10, (fun _ => rfl), (fun h => ⟨(unhide H_c12 h).1, rfl⟩), unhide H_c13, unhide H_c15, unhide H_c16, (fun h => nomatch h)⟩
    · intro h0 hd K hK
      have z : u12 = false := h0
      have z17_ : u17 = false := by
        cases hu : u17 with
        | false => rfl
        | true => exact nomatch z.symm.trans ((kF hu).2.2.2.2.2.2.2.2.2.2.2.2.1)
      have zd : u6 = true ∧ u11 = true := by
        simp [Region.binds] at hd
        simp [hd]
      have H_kB := hide kB
      have H_kZ := hide kZ
      have H_c3 := hide c3
      have H_c4 := hide c4
      have H_c5 := hide c5
      have H_c9 := hide c9
      have H_c10 := hide c10
      have H_c11 := hide c11
      have H_c12 := hide c12
      have H_c13 := hide c13
      have H_c15 := hide c15
      have H_c16 := hide c16
      have H_kF := hide kF
      clear kB kZ c3 c4 c5 c9 c10 c11 c12 c13 c15 c16 kF
      obtain ⟨rfl, rfl⟩ := zd
      subst z17_
      subst z
      clear h0 hd
      rw [if_pos (by rfl)]
      go_simp
      exact unhide hK _ _ ⟨u0, u1, u2, u3, u4, u5, true, u7, u8, u9, u10, true, true, u13, u14, u15, u16, false, rfl, rfl, unhide H_kB, (fun h => nomatch h), unhide H_c3, unhide H_c4, unhide H_c5, unhide H_c9, unhide H_c10, unhide H_c11, (fun _ => ⟨rfl, rfl⟩), (fun h => rfl), unhide H_c15, unhide H_c16, (fun h => nomatch h)⟩
    · intro h0 hd K hK
      have z : u13 = false := h0
      have z17_ : u17 = false := by
        cases hu : u17 with
        | false => rfl
        | true => exact nomatch z.symm.trans ((kF hu).2.2.2.2.2.2.2.2.2.2.2.2.2.1)
      have zd : u12 = true := by
        simp [Region.binds] at hd
        simp [hd]
      have H_kB := hide kB
      have H_kZ := hide kZ
      have H_c3 := hide c3
      have H_c4 := hide c4
      have H_c5 := hide c5
      have H_c9 := hide c9
      have H_c10 := hide c10
      have H_c11 := hide c11
      have H_c12 := hide c12
      have H_c13 := hide c13
      have H_c15 := hide c15
      have H_c16 := hide c16
      have H_kF := hide kF
      clear kB kZ c3 c4 c5 c9 c10 c11 c12 c13 c15 c16 kF
      obtain ⟨rfl⟩ := zd
      subst z17_
      subst z
      clear h0 hd
      rw [if_pos (by rfl)]
      have cc := keep1 (unhide H_kB rfl) cx
      have cd := keep1 (unhide H_kB rfl) cy
      go_simp
      exact unhide hK _ _ ⟨u0, u1, u2, u3, u4, u5, u6, u7, u8, u9, u10, u11, true, true, u14, u15, u16, false, rfl, rfl, unhide H_kB, (fun h => nomatch h), unhide H_c3, unhide H_c4, unhide H_c5, unhide H_c9, unhide H_c10, unhide H_c11, unhide H_c12, (fun _ => rfl), (fun h => ⟨rfl, (unhide H_c15 h).2⟩), unhide H_c16, (fun h => nomatch h)⟩
    · intro h0 hd K hK
      have z : u14 = false := h0
      have z17_ : u17 = false := by
        cases hu : u17 with
        | false => rfl
        | true => exact nomatch z.symm.trans ((kF hu).2.2.2.2.2.2.2.2.2.2.2.2.2.2.1)
      have H_kB := hide kB
      have H_kZ := hide kZ
      have H_c3 := hide c3
      have H_c4 := hide c4
      have H_c5 := hide c5
      have H_c9 := hide c9
      have H_c10 := hide c10
      have H_c11 := hide c11
      have H_c12 := hide c12
      have H_c13 := hide c13
      have H_c15 := hide c15
      have H_c16 := hide c16
      have H_kF := hide kF
      clear kB kZ c3 c4 c5 c9 c10 c11 c12 c13 c15 c16 kF
      subst z17_
      subst z
      clear h0 hd
      rw [if_pos (by rfl)]
      go_simp
      exact unhide hK _ _ ⟨u0, u1, u2, u3, u4, u5, u6, u7, u8, u9, u10, u11, u12, u13, true, u15, u16, false, rfl, rfl, unhide H_kB, (fun h => nomatch h), unhide H_c3, unhide H_c4, unhide H_c5, unhide H_c9, unhide H_c10, unhide H_c11, unhide H_c12, unhide H_c13, (fun h => ⟨(unhide H_c15 h).1, rfl⟩), unhide H_c16, (fun h => nomatch h)⟩
    · intro h0 hd K hK
      have z : u15 = false := h0
      have z17_ : u17 = false := by
        cases hu : u17 with
        | false => rfl
        | true => exact nomatch z.symm.trans ((kF hu).2.2.2.2.2.2.2.2.2.2.2.2.2.2.2.1)
      have zd : u13 = true ∧ u14 = true := by
        simp [Region.binds] at hd
        simp [hd]
      have H_kB := hide kB
      have H_kZ := hide kZ
      have H_c3 := hide c3
      have H_c4 := hide c4
      have H_c5 := hide c5
      have H_c9 := hide c9
      have H_c10 := hide c10
      have H_c11 := hide c11
      have H_c12 := hide c12
      have H_c13 := hide c13
      have H_c15 := hide c15
      have H_c16 := hide c16
      have H_kF := hide kF
      clear kB kZ c3 c4 c5 c9 c10 c11 c12 c13 c15 c16 kF
      obtain ⟨rfl, rfl⟩ := zd
      subst z17_
      subst z
      clear h0 hd
      rw [if_pos (by rfl)]
      go_simp
      refine (lower_any x y ax _ bx bY ha).mono ?_
      rintro e w8 ⟨rfl, hb8⟩
      exact unhide hK _ _ ⟨u0, u1, u2, u3, u4, u5, u6, u7, u8, u9, u10, u11, u12, true, true, true, u16, false, rfl, rfl, (fun _ => bc (unhide H_kB rfl) hb8), (fun h => nomatch h), unhide H_c3, unhide H_c4, unhide H_c5, unhide H_c9, unhide H_c10, unhide H_c11, unhide H_c12, unhide H_c13, (fun _ => ⟨rfl, rfl⟩), unhide H_c16, (fun h => nomatch h)⟩
    · intro h0 hd K hK
      have z : u16 = false := h0
      have z17_ : u17 = false := by
        cases hu : u17 with
        | false => rfl
        | true => exact nomatch z.symm.trans ((kF hu).2.2.2.2.2.2.2.2.2.2.2.2.2.2.2.2)
      have zd : u0 = true ∧ u5 = true := by
        simp [Region.binds] at hd
        simp [hd]
      have H_kB := hide kB
      have H_kZ := hide kZ
      have H_c3 := hide c3
      have H_c4 := hide c4
      have H_c5 := hide c5
      have H_c9 := hide c9
      have H_c10 := hide c10
      have H_c11 := hide c11
      have H_c12 := hide c12
      have H_c13 := hide c13
      have H_c15 := hide c15
      have H_c16 := hide c16
      have H_kF := hide kF
      clear kB kZ c3 c4 c5 c9 c10 c11 c12 c13 c15 c16 kF
      obtain ⟨rfl, rfl⟩ := zd
      subst z17_
      subst z
      clear h0 hd
      rw [if_pos (by rfl)]
      go_simp
      exact unhide hK _ _ ⟨true, u1, u2, u3, u4, true, u6, u7, u8, u9, u10, u11, u12, u13, u14, u15, true, false, rfl, rfl, unhide H_kB, (fun h => nomatch h), unhide H_c3, unhide H_c4, unhide H_c5, unhide H_c9, unhide H_c10, unhide H_c11, unhide H_c12, unhide H_c13, unhide H_c15, (fun _ => ⟨rfl, rfl⟩), (fun h => nomatch h)⟩
    · intro h0 hd K hK
      have z : u17 = false := h0
      have zd : u15 = true ∧ u16 = true ∧ u0 = true ∧ u1 = true ∧ u2 = true ∧ u3 = true ∧ u4 = true ∧ u5 = true ∧ u6 = true ∧ u7 = true ∧ u8 = true ∧ u9 = true ∧ u10 = true ∧ u11 = true ∧ u12 = true ∧ u13 = true ∧ u14 = true := by
        simp [Region.binds] at hd
        simp [hd]
      have H_kB := hide kB
      have H_kZ := hide kZ
      have H_c3 := hide c3
      have H_c4 := hide c4
      have H_c5 := hide c5
      have H_c9 := hide c9
      have H_c10 := hide c10
      have H_c11 := hide c11
      have H_c12 := hide c12
      have H_c13 := hide c13
      have H_c15 := hide c15
      have H_c16 := hide c16
      have H_kF := hide kF
      clear kB kZ c3 c4 c5 c9 c10 c11 c12 c13 c15 c16 kF
      obtain ⟨rfl, rfl, rfl, rfl, rfl, rfl, rfl, rfl, rfl, rfl, rfl, rfl, rfl, rfl, rfl, rfl, rfl⟩ := zd
      subst z
      clear h0 hd
      rw [if_pos (by rfl)]
      have hbk := ((unhide H_kB rfl).block gq hgq).trans hblk
      have cc := keep1 (unhide H_kB rfl) cx
      have cd := keep1 (unhide H_kB rfl) cy
      have cf0 : W.frozen? ⟨gq, pt * 2, none⟩ = false := by simp [World.frozen?, hbk]
      have cf1 : W.frozen? ⟨gq, pt * 2 + 1, none⟩ = false := by simp [World.frozen?, hbk]
      have clt := cell_lt cc
      clear hbk
      go_simp
      exact unhide hK _ _ ⟨true, true, true, true, true, true, true, true, true, true, true, true, true, true, true, true, true, true, rfl, rfl, (fun h => nomatch h), (fun _ => ⟨_, unhide H_kB rfl, rfl⟩), (fun _ => ⟨rfl, rfl⟩), (fun _ => rfl), (fun _ => rfl), (fun _ => ⟨rfl, rfl⟩), (fun _ => rfl), (fun _ => rfl), (fun _ => ⟨rfl, rfl⟩), (fun _ => rfl), (fun _ => ⟨rfl, rfl⟩), (fun _ => ⟨rfl, rfl⟩), (fun _ => ⟨rfl, rfl, rfl, rfl, rfl, rfl, rfl, rfl, rfl, rfl, rfl, rfl, rfl, rfl, rfl, rfl, rfl⟩)⟩
  case hend =>
    rintro Lb A W ⟨u0, u1, u2, u3, u4, u5, u6, u7, u8, u9, u10, u11, u12, u13, u14, u15, u16, u17, rfl, rfl, kB, kZ, c3, c4, c5, c9, c10, c11, c12, c13, c15, c16, kF⟩ hL
    have hl : u0 = true ∧ u1 = true ∧ u2 = true ∧ u3 = true ∧ u4 = true ∧ u5 = true ∧ u6 = true ∧ u7 = true ∧ u8 = true ∧ u9 = true ∧ u10 = true ∧ u11 = true ∧ u12 = true ∧ u13 = true ∧ u14 = true ∧ u15 = true ∧ u16 = true ∧ u17 = true := by
      have h2 := congrArg Array.toList hL
      simpa [List.replicate] using h2
    obtain ⟨rfl, rfl, rfl, rfl, rfl, rfl, rfl, rfl, rfl, rfl, rfl, rfl, rfl, rfl, rfl, rfl, rfl, rfl⟩ := hl
    obtain ⟨W0, hw0, hw1⟩ := kZ rfl
    exact unhide HQ _ _ _ _ _ _ _ _ _ _ _ _ _ _ _ _ _ W0 _ hw0 hw1
end Go.Proofs.Ytchdmigeopmacaa
