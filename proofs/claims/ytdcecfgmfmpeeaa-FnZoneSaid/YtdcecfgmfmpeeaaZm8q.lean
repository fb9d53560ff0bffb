/-
  Two statements of the model's ZoneOf, walked alone.
-/
import Derived.Test.YtdcecfgmfmpeeaaZnrq
import Derived.Test.YtdcecfgmfmpeeaaLeavesq
namespace Go.Proofs.Ytdcecfgmfmpeeaa
open Go.ChangeShapes Go.WideShapes Go.ChangeAt Go.RowKit
set_option linter.unusedVariables false
set_option linter.unusedSimpArgs false
noncomputable def reg8 (id : Nat) : Go.Code := match Try.f8.body with | some c => (regOfZ id c).getD .skip | none => .skip
set_option maxHeartbeats 4000000 in
set_option maxRecDepth 100000 in
theorem zm25 {s1 s2 s3 s4 s5 s6 s7 s11 s13 s14 s15 s16 s17 s18 s19 s20 s21 s22 s23 s24 s25 s26 s27 s28 s29 s30 s31 s32 s33 s34 s35 s36 s37 s38 s39 s40 s41 s42 s43 s44 s45 s46 s47 s48 s49 s50 s51 s52 s53 s54 s55 s56 s57 s58 s59 s60 s61 s62 s63 s64 s65 s66 s67 s68 s69 s70 s71 s72 s73 s74 s75 s76 s77 s78 s79 s80 s81 s82 s83 s84 s85 s86 s87 s88 s89 s90 s91 s92 s93 s94 s95 s96 s97 s98 s99 s100 s101 s102 s103 s104 s105 s106 s107 s108 s109 s110 s111 s112 s113 s114 s115 s116 s117 s118 s119 s120 s121 s122 s123 s124 s125 s126 s127 s128 s129 s130 s131 s132 s133 s134 s135 s136 : Value} {b cap n b8 b9 : Nat} {ja jb fa : Nat} {a1 a2 c1 c2 sd dd : Int} {V : World} {K_ : Act → World → Prop}
  (H8c0 : Hid (V.cell? ⟨b8, 0, none⟩ = some (.int .i64 a1))) (H8c1 : Hid (V.cell? ⟨b8, 1, none⟩ = some (.int .i64 a2))) (H9c0 : Hid (V.cell? ⟨b9, 0, none⟩ = some (.int .i64 c1))) (H9c1 : Hid (V.cell? ⟨b9, 1, none⟩ = some (.int .i64 c2)))
  (HW : Hid (IntKind.i64.wrap (sd * sd) = sd * sd))
  (HA : Hid (∀ X, Below V.heap.size V X → Calls Try.prog 29 #[.slice (some ⟨b, 0, none⟩) n cap, .agg #[.int .i64 (a1), .int .i64 (a2)]] X fun e w' => e = .returned (.int .i64 (ja : Int)) ∧ Below X.heap.size X w'))
  (HB : Hid (∀ X, Below V.heap.size V X → Calls Try.prog 29 #[.slice (some ⟨b, 0, none⟩) n cap, .agg #[.int .i64 (c1), .int .i64 (c2)]] X fun e w' => e = .returned (.int .i64 (jb : Int)) ∧ Below X.heap.size X w'))
  (HD : Hid (∀ X, Below V.heap.size V X → Calls Try.prog 30 #[.agg #[.int .i64 (a1), .int .i64 (a2)], .agg #[.int .i64 (c1), .int .i64 (c2)]] X fun e w' => e = .returned (.int .i64 (dd)) ∧ Below X.heap.size X w'))
  (hQ : ∀ (M : Nat) (W' : World), Below V.heap.size V W' → V.heap.size ≤ M → cb W' M 26 [.int .i64 (ja : Int), .int .i64 (jb : Int), .int .i64 (fa : Int), .int .i64 (sd * sd), .int .i64 (dd)] → K_ { tmps := #[.slice (some ⟨b, 0, none⟩) n cap, s1, s2, s3, s4, s5, s6, s7, .pointer (some ⟨b8, 0, none⟩), .pointer (some ⟨b9, 0, none⟩), .int .i64 (fa : Int), s11, .int .i64 (sd), .pointer (some ⟨M, 0, none⟩), s14, s15, s16, s17, s18, s19, s20, s21, s22, s23, s24, s25, s26, s27, s28, s29, s30, s31, s32, s33, s34, s35, s36, s37, s38, s39, s40, s41, s42, s43, s44, s45, s46, s47, s48, s49, s50, s51, s52, s53, s54, s55, s56, s57, s58, s59, s60, s61, s62, s63, s64, s65, s66, s67, s68, s69, s70, s71, s72, s73, s74, s75, s76, s77, s78, s79, s80, s81, s82, s83, s84, s85, s86, s87, s88, s89, s90, s91, s92, s93, s94, s95, s96, s97, s98, s99, s100, s101, s102, s103, s104, s105, .slice (some ⟨b, 0, none⟩) n cap, .agg #[.int .i64 (a1), .int .i64 (a2)], .int .i64 (ja : Int), .slice (some ⟨b, 0, none⟩) n cap, .agg #[.int .i64 (c1), .int .i64 (c2)], .int .i64 (jb : Int), .int .i64 (fa : Int), .int .i64 (sd), .int .i64 (sd), .int .i64 (sd * sd), .agg #[.int .i64 (a1), .int .i64 (a2)], .agg #[.int .i64 (c1), .int .i64 (c2)], .int .i64 (dd), .agg #[.int .i64 (ja : Int), .int .i64 (jb : Int), .int .i64 (fa : Int), .int .i64 (sd * sd), .int .i64 (dd)], s120, s121, s122, s123, s124, s125, s126, s127, s128, s129, s130, s131, s132, s133, s134, s135, s136], defers := [] } W') :
  Go.Code.wp Try.prog (reg8 25) (Only K_) { tmps := #[.slice (some ⟨b, 0, none⟩) n cap, s1, s2, s3, s4, s5, s6, s7, .pointer (some ⟨b8, 0, none⟩), .pointer (some ⟨b9, 0, none⟩), .int .i64 (fa : Int), s11, .int .i64 (sd), s13, s14, s15, s16, s17, s18, s19, s20, s21, s22, s23, s24, s25, s26, s27, s28, s29, s30, s31, s32, s33, s34, s35, s36, s37, s38, s39, s40, s41, s42, s43, s44, s45, s46, s47, s48, s49, s50, s51, s52, s53, s54, s55, s56, s57, s58, s59, s60, s61, s62, s63, s64, s65, s66, s67, s68, s69, s70, s71, s72, s73, s74, s75, s76, s77, s78, s79, s80, s81, s82, s83, s84, s85, s86, s87, s88, s89, s90, s91, s92, s93, s94, s95, s96, s97, s98, s99, s100, s101, s102, s103, s104, s105, s106, s107, s108, s109, s110, s111, s112, s113, s114, s115, s116, s117, s118, s119, s120, s121, s122, s123, s124, s125, s126, s127, s128, s129, s130, s131, s132, s133, s134, s135, s136], defers := [] } V := by
 have HQ := hide hQ
 clear hQ
 conv => arg 2; whnf
 refine wp_region_inv (fun Lb A W => ∃ (u0 u1 u2 u3 u4 u5 u6 u7 u8 u9 u10 u11 u12 u13 u14 u15 : Bool) (M : Nat), Lb = #[u0, u1, u2, u3, u4, u5, u6, u7, u8, u9, u10, u11, u12, u13, u14, u15] ∧ A = ({ tmps := #[.slice (some ⟨b, 0, none⟩) n cap, s1, s2, s3, s4, s5, s6, s7, .pointer (some ⟨b8, 0, none⟩), .pointer (some ⟨b9, 0, none⟩), .int .i64 (fa : Int), s11, .int .i64 (sd), (bif u14 then .pointer (some ⟨M, 0, none⟩) else s13), s14, s15, s16, s17, s18, s19, s20, s21, s22, s23, s24, s25, s26, s27, s28, s29, s30, s31, s32, s33, s34, s35, s36, s37, s38, s39, s40, s41, s42, s43, s44, s45, s46, s47, s48, s49, s50, s51, s52, s53, s54, s55, s56, s57, s58, s59, s60, s61, s62, s63, s64, s65, s66, s67, s68, s69, s70, s71, s72, s73, s74, s75, s76, s77, s78, s79, s80, s81, s82, s83, s84, s85, s86, s87, s88, s89, s90, s91, s92, s93, s94, s95, s96, s97, s98, s99, s100, s101, s102, s103, s104, s105, (bif u0 then .slice (some ⟨b, 0, none⟩) n cap else s106), (bif u1 then .agg #[.int .i64 (a1), .int .i64 (a2)] else s107), (bif u2 then .int .i64 (ja : Int) else s108), (bif u3 then .slice (some ⟨b, 0, none⟩) n cap else s109), (bif u4 then .agg #[.int .i64 (c1), .int .i64 (c2)] else s110), (bif u5 then .int .i64 (jb : Int) else s111), (bif u6 then .int .i64 (fa : Int) else s112), (bif u7 then .int .i64 (sd) else s113), (bif u8 then .int .i64 (sd) else s114), (bif u9 then .int .i64 (sd * sd) else s115), (bif u10 then .agg #[.int .i64 (a1), .int .i64 (a2)] else s116), (bif u11 then .agg #[.int .i64 (c1), .int .i64 (c2)] else s117), (bif u12 then .int .i64 (dd) else s118), (bif u13 then .agg #[.int .i64 (ja : Int), .int .i64 (jb : Int), .int .i64 (fa : Int), .int .i64 (sd * sd), .int .i64 (dd)] else s119), s120, s121, s122, s123, s124, s125, s126, s127, s128, s129, s130, s131, s132, s133, s134, s135, s136], defers := [] } : Act) ∧ Below V.heap.size V W ∧ (u14 = true → V.heap.size ≤ M ∧ (u15 = false → cb W M 26 z5)) ∧ (u15 = true → cb W M 26 [.int .i64 (ja : Int), .int .i64 (jb : Int), .int .i64 (fa : Int), .int .i64 (sd * sd), .int .i64 (dd)]) ∧ (u2 = true → u0 = true ∧ u1 = true) ∧ (u5 = true → u3 = true ∧ u4 = true) ∧ (u9 = true → u7 = true ∧ u8 = true) ∧ (u12 = true → u10 = true ∧ u11 = true) ∧ (u13 = true → u2 = true ∧ u5 = true ∧ u6 = true ∧ u9 = true ∧ u12 = true) ∧ (u15 = true → u0 = true ∧ u1 = true ∧ u2 = true ∧ u3 = true ∧ u4 = true ∧ u5 = true ∧ u6 = true ∧ u7 = true ∧ u8 = true ∧ u9 = true ∧ u10 = true ∧ u11 = true ∧ u12 = true ∧ u13 = true ∧ u14 = true)) (by kernel_rfl) (by kernel_rfl) ?h0 ?hstep ?hend
 case h0 =>
  exact ⟨false, false, false, false, false, false, false, false, false, false, false, false, false, false, false, false, 0, rfl, rfl, Below.drew (Below.refl _ _), (fun h => nomatch h), (fun h => nomatch h), (fun h => nomatch h), (fun h => nomatch h), (fun h => nomatch h), (fun h => nomatch h), (fun h => nomatch h), (fun h => nomatch h)⟩
 case hstep =>
  rintro Lb A W ⟨u0, u1, u2, u3, u4, u5, u6, u7, u8, u9, u10, u11, u12, u13, u14, u15, M, rfl, rfl, kB, kM, kZ, c2, c5, c9, c12, c13, kF⟩
  refine ⟨?_, ?_, ?_, ?_, ?_, ?_, ?_, ?_, ?_, ?_, ?_, ?_, ?_, ?_, ?_, ?_, trivial⟩
  ·intro h0 hd K hK
   have z : u0 = false := h0
   have z15_ : u15 = false := by
    cases hu : u15 with
    | false => rfl
    | true => exact nomatch z.symm.trans ((kF hu).1)
   have H_kB := hide kB
   have H_kM := hide kM
   have H_kZ := hide kZ
   have H_c2 := hide c2
   have H_c5 := hide c5
   have H_c9 := hide c9
   have H_c12 := hide c12
   have H_c13 := hide c13
   have H_kF := hide kF
   clear kB kM kZ c2 c5 c9 c12 c13 kF
   subst z15_
   subst z
   clear h0 hd
   rw [if_pos (by rfl)]
   go_simp
   exact zu hK _ _ ⟨true, u1, u2, u3, u4, u5, u6, u7, u8, u9, u10, u11, u12, u13, u14, false, M, rfl, rfl, zu H_kB, zu H_kM, (fun h => nomatch h), (fun h => ⟨rfl, (zu H_c2 h).2⟩), zu H_c5, zu H_c9, zu H_c12, zu H_c13, (fun h => nomatch h)⟩
  ·intro h0 hd K hK
   have z : u1 = false := h0
   have z15_ : u15 = false := by
    cases hu : u15 with
    | false => rfl
    | true => exact nomatch z.symm.trans ((kF hu).2.1)
   have H_kB := hide kB
   have H_kM := hide kM
   have H_kZ := hide kZ
   have H_c2 := hide c2
   have H_c5 := hide c5
   have H_c9 := hide c9
   have H_c12 := hide c12
   have H_c13 := hide c13
   have H_kF := hide kF
   clear kB kM kZ c2 c5 c9 c12 c13 kF
   subst z15_
   subst z
   clear h0 hd
   rw [if_pos (by rfl)]
   have c0 := keep1 (zu H_kB) (zu H8c0)
   have c1 := keep1 (zu H_kB) (zu H8c1)
   go_simp
   exact zu hK _ _ ⟨u0, true, u2, u3, u4, u5, u6, u7, u8, u9, u10, u11, u12, u13, u14, false, M, rfl, rfl, zu H_kB, zu H_kM, (fun h => nomatch h), (fun h => ⟨(zu H_c2 h).1, rfl⟩), zu H_c5, zu H_c9, zu H_c12, zu H_c13, (fun h => nomatch h)⟩
  ·intro h0 hd K hK
   have z : u2 = false := h0
   have z15_ : u15 = false := by
    cases hu : u15 with
    | false => rfl
    | true => exact nomatch z.symm.trans ((kF hu).2.2.1)
   have zd : u0 = true ∧ u1 = true := by
    simp [Region.binds] at hd
    simp [hd]
   have H_kB := hide kB
   have H_kM := hide kM
   have H_kZ := hide kZ
   have H_c2 := hide c2
   have H_c5 := hide c5
   have H_c9 := hide c9
   have H_c12 := hide c12
   have H_c13 := hide c13
   have H_kF := hide kF
   clear kB kM kZ c2 c5 c9 c12 c13 kF
   obtain ⟨rfl, rfl⟩ := zd
   subst z15_
   subst z
   clear h0 hd
   rw [if_pos (by rfl)]
   go_simp
   refine (zu HA W (zu H_kB)).mono ?_
   rintro e w8 ⟨rfl, hb8⟩
   exact zu hK _ _ ⟨true, true, true, u3, u4, u5, u6, u7, u8, u9, u10, u11, u12, u13, u14, false, M, rfl, rfl, (bc (zu H_kB) hb8), (fun h => ⟨(zu H_kM h).1, fun h2 => ((zu H_kM h).2 h2).bel hb8⟩), (fun h => nomatch h), (fun _ => ⟨rfl, rfl⟩), zu H_c5, zu H_c9, zu H_c12, (fun h => ⟨rfl, (zu H_c13 h).2.1, (zu H_c13 h).2.2.1, (zu H_c13 h).2.2.2.1, (zu H_c13 h).2.2.2.2⟩), (fun h => nomatch h)⟩
  ·intro h0 hd K hK
   have z : u3 = false := h0
   have z15_ : u15 = false := by
    cases hu : u15 with
    | false => rfl
    | true => exact nomatch z.symm.trans ((kF hu).2.2.2.1)
   have H_kB := hide kB
   have H_kM := hide kM
   have H_kZ := hide kZ
   have H_c2 := hide c2
   have H_c5 := hide c5
   have H_c9 := hide c9
   have H_c12 := hide c12
   have H_c13 := hide c13
   have H_kF := hide kF
   clear kB kM kZ c2 c5 c9 c12 c13 kF
   subst z15_
   subst z
   clear h0 hd
   rw [if_pos (by rfl)]
   go_simp
   exact zu hK _ _ ⟨u0, u1, u2, true, u4, u5, u6, u7, u8, u9, u10, u11, u12, u13, u14, false, M, rfl, rfl, zu H_kB, zu H_kM, (fun h => nomatch h), zu H_c2, (fun h => ⟨rfl, (zu H_c5 h).2⟩), zu H_c9, zu H_c12, zu H_c13, (fun h => nomatch h)⟩
  ·intro h0 hd K hK
   have z : u4 = false := h0
   have z15_ : u15 = false := by
    cases hu : u15 with
    | false => rfl
    | true => exact nomatch z.symm.trans ((kF hu).2.2.2.2.1)
   have H_kB := hide kB
   have H_kM := hide kM
   have H_kZ := hide kZ
   have H_c2 := hide c2
   have H_c5 := hide c5
   have H_c9 := hide c9
   have H_c12 := hide c12
   have H_c13 := hide c13
   have H_kF := hide kF
   clear kB kM kZ c2 c5 c9 c12 c13 kF
   subst z15_
   subst z
   clear h0 hd
   rw [if_pos (by rfl)]
   have c0 := keep1 (zu H_kB) (zu H9c0)
   have c1 := keep1 (zu H_kB) (zu H9c1)
   go_simp
   exact zu hK _ _ ⟨u0, u1, u2, u3, true, u5, u6, u7, u8, u9, u10, u11, u12, u13, u14, false, M, rfl, rfl, zu H_kB, zu H_kM, (fun h => nomatch h), zu H_c2, (fun h => ⟨(zu H_c5 h).1, rfl⟩), zu H_c9, zu H_c12, zu H_c13, (fun h => nomatch h)⟩
  ·intro h0 hd K hK
   have z : u5 = false := h0
   have z15_ : u15 = false := by
    cases hu : u15 with
    | false => rfl
    | true => exact nomatch z.symm.trans ((kF hu).2.2.2.2.2.1)
   have zd : u3 = true ∧ u4 = true := by
    simp [Region.binds] at hd
    simp [hd]
   have H_kB := hide kB
   have H_kM := hide kM
   have H_kZ := hide kZ
   have H_c2 := hide c2
   have H_c5 := hide c5
   have H_c9 := hide c9
   have H_c12 := hide c12
   have H_c13 := hide c13
   have H_kF := hide kF
   clear kB kM kZ c2 c5 c9 c12 c13 kF
   obtain ⟨rfl, rfl⟩ := zd
   subst z15_
   subst z
   clear h0 hd
   rw [if_pos (by rfl)]
   go_simp
   refine (zu HB W (zu H_kB)).mono ?_
   rintro e w8 ⟨rfl, hb8⟩
   exact zu hK _ _ ⟨u0, u1, u2, true, true, true, u6, u7, u8, u9, u10, u11, u12, u13, u14, false, M, rfl, rfl, (bc (zu H_kB) hb8), (fun h => ⟨(zu H_kM h).1, fun h2 => ((zu H_kM h).2 h2).bel hb8⟩), (fun h => nomatch h), zu H_c2, (fun _ => ⟨rfl, rfl⟩), zu H_c9, zu H_c12, (fun h => ⟨(zu H_c13 h).1, rfl, (zu H_c13 h).2.2.1, (zu H_c13 h).2.2.2.1, (zu H_c13 h).2.2.2.2⟩), (fun h => nomatch h)⟩
  ·intro h0 hd K hK
   have z : u6 = false := h0
   have z15_ : u15 = false := by
    cases hu : u15 with
    | false => rfl
    | true => exact nomatch z.symm.trans ((kF hu).2.2.2.2.2.2.1)
   have H_kB := hide kB
   have H_kM := hide kM
   have H_kZ := hide kZ
   have H_c2 := hide c2
   have H_c5 := hide c5
   have H_c9 := hide c9
   have H_c12 := hide c12
   have H_c13 := hide c13
   have H_kF := hide kF
   clear kB kM kZ c2 c5 c9 c12 c13 kF
   subst z15_
   subst z
   clear h0 hd
   rw [if_pos (by rfl)]
   go_simp
   exact zu hK _ _ ⟨u0, u1, u2, u3, u4, u5, true, u7, u8, u9, u10, u11, u12, u13, u14, false, M, rfl, rfl, zu H_kB, zu H_kM, (fun h => nomatch h), zu H_c2, zu H_c5, zu H_c9, zu H_c12, (fun h => ⟨(zu H_c13 h).1, (zu H_c13 h).2.1, rfl, (zu H_c13 h).2.2.2.1, (zu H_c13 h).2.2.2.2⟩), (fun h => nomatch h)⟩
  ·intro h0 hd K hK
   have z : u7 = false := h0
   have z15_ : u15 = false := by
    cases hu : u15 with
    | false => rfl
    | true => exact nomatch z.symm.trans ((kF hu).2.2.2.2.2.2.2.1)
   have H_kB := hide kB
   have H_kM := hide kM
   have H_kZ := hide kZ
   have H_c2 := hide c2
   have H_c5 := hide c5
   have H_c9 := hide c9
   have H_c12 := hide c12
   have H_c13 := hide c13
   have H_kF := hide kF
   clear kB kM kZ c2 c5 c9 c12 c13 kF
   subst z15_
   subst z
   clear h0 hd
   rw [if_pos (by rfl)]
   go_simp
   exact zu hK _ _ ⟨u0, u1, u2, u3, u4, u5, u6, true, u8, u9, u10, u11, u12, u13, u14, false, M, rfl, rfl, zu H_kB, zu H_kM, (fun h => nomatch h), zu H_c2, zu H_c5, (fun h => ⟨rfl, (zu H_c9 h).2⟩), zu H_c12, zu H_c13, (fun h => nomatch h)⟩
  ·intro h0 hd K hK
   have z : u8 = false := h0
   have z15_ : u15 = false := by
    cases hu : u15 with
    | false => rfl
    | true => exact nomatch z.symm.trans ((kF hu).2.2.2.2.2.2.2.2.1)
   have H_kB := hide kB
   have H_kM := hide kM
   have H_kZ := hide kZ
   have H_c2 := hide c2
   have H_c5 := hide c5
   have H_c9 := hide c9
   have H_c12 := hide c12
   have H_c13 := hide c13
   have H_kF := hide kF
   clear kB kM kZ c2 c5 c9 c12 c13 kF
   subst z15_
   subst z
   clear h0 hd
   rw [if_pos (by rfl)]
   go_simp
   exact zu hK _ _ ⟨u0, u1, u2, u3, u4, u5, u6, u7, true, u9, u10, u11, u12, u13, u14, false, M, rfl, rfl, zu H_kB, zu H_kM, (fun h => nomatch h), zu H_c2, zu H_c5, (fun h => ⟨(zu H_c9 h).1, rfl⟩), zu H_c12, zu H_c13, (fun h => nomatch h)⟩
  ·intro h0 hd K hK
   have z : u9 = false := h0
   have z15_ : u15 = false := by
    cases hu : u15 with
    | false => rfl
    | true => exact nomatch z.symm.trans ((kF hu).2.2.2.2.2.2.2.2.2.1)
   have zd : u7 = true ∧ u8 = true := by
    simp [Region.binds] at hd
    simp [hd]
   have H_kB := hide kB
   have H_kM := hide kM
   have H_kZ := hide kZ
   have H_c2 := hide c2
   have H_c5 := hide c5
   have H_c9 := hide c9
   have H_c12 := hide c12
   have H_c13 := hide c13
   have H_kF := hide kF
   clear kB kM kZ c2 c5 c9 c12 c13 kF
   obtain ⟨rfl, rfl⟩ := zd
   subst z15_
   subst z
   clear h0 hd
   rw [if_pos (by rfl)]
   have wm := zu HW
   go_simp
   exact zu hK _ _ ⟨u0, u1, u2, u3, u4, u5, u6, true, true, true, u10, u11, u12, u13, u14, false, M, rfl, rfl, zu H_kB, zu H_kM, (fun h => nomatch h), zu H_c2, zu H_c5, (fun _ => ⟨rfl, rfl⟩), zu H_c12, (fun h => ⟨(zu H_c13 h).1, (zu H_c13 h).2.1, (zu H_c13 h).2.2.1, rfl, (zu H_c13 h).2.2.2.2⟩), (fun h => nomatch h)⟩
  ·intro h0 hd K hK
   have z : u10 = false := h0
   have z15_ : u15 = false := by
    cases hu : u15 with
    | false => rfl
    | true => exact nomatch z.symm.trans ((kF hu).2.2.2.2.2.2.2.2.2.2.1)
   have H_kB := hide kB
   have H_kM := hide kM
   have H_kZ := hide kZ
   have H_c2 := hide c2
   have H_c5 := hide c5
   have H_c9 := hide c9
   have H_c12 := hide c12
   have H_c13 := hide c13
   have H_kF := hide kF
   clear kB kM kZ c2 c5 c9 c12 c13 kF
   subst z15_
   subst z
   clear h0 hd
   rw [if_pos (by rfl)]
   have c0 := keep1 (zu H_kB) (zu H8c0)
   have c1 := keep1 (zu H_kB) (zu H8c1)
   go_simp
   exact zu hK _ _ ⟨u0, u1, u2, u3, u4, u5, u6, u7, u8, u9, true, u11, u12, u13, u14, false, M, rfl, rfl, zu H_kB, zu H_kM, (fun h => nomatch h), zu H_c2, zu H_c5, zu H_c9, (fun h => ⟨rfl, (zu H_c12 h).2⟩), zu H_c13, (fun h => nomatch h)⟩
  ·intro h0 hd K hK
   have z : u11 = false := h0
   have z15_ : u15 = false := by
    cases hu : u15 with
    | false => rfl
    | true => exact nomatch z.symm.trans ((kF hu).2.2.2.2.2.2.2.2.2.2.2.1)
   have H_kB := hide kB
   have H_kM := hide kM
   have H_kZ := hide kZ
   have H_c2 := hide c2
   have H_c5 := hide c5
   have H_c9 := hide c9
   have H_c12 := hide c12
   have H_c13 := hide c13
   have H_kF := hide kF
   clear kB kM kZ c2 c5 c9 c12 c13 kF
   subst z15_
   subst z
   clear h0 hd
   rw [if_pos (by rfl)]
   have c0 := keep1 (zu H_kB) (zu H9c0)
   have c1 := keep1 (zu H_kB) (zu H9c1)
   go_simp
   exact zu hK _ _ ⟨u0, u1, u2, u3, u4, u5, u6, u7, u8, u9, u10, true, u12, u13, u14, false, M, rfl, rfl, zu H_kB, zu H_kM, (fun h => nomatch h), zu H_c2, zu H_c5, zu H_c9, (fun h => ⟨(zu H_c12 h).1, rfl⟩), zu H_c13, (fun h => nomatch h)⟩
  ·intro h0 hd K hK
   have z : u12 = false := h0
   have z15_ : u15 = false := by
    cases hu : u15 with
    | false => rfl
    | true => exact nomatch z.symm.trans ((kF hu).2.2.2.2.2.2.2.2.2.2.2.2.1)
   have zd : u10 = true ∧ u11 = true := by
    simp [Region.binds] at hd
    simp [hd]
   have H_kB := hide kB
   have H_kM := hide kM
   have H_kZ := hide kZ
   have H_c2 := hide c2
   have H_c5 := hide c5
   have H_c9 := hide c9
   have H_c12 := hide c12
   have H_c13 := hide c13
   have H_kF := hide kF
   clear kB kM kZ c2 c5 c9 c12 c13 kF
   obtain ⟨rfl, rfl⟩ := zd
   subst z15_
   subst z
   clear h0 hd
   rw [if_pos (by rfl)]
   go_simp
   refine (zu HD W (zu H_kB)).mono ?_
   rintro e w8 ⟨rfl, hb8⟩
   exact zu hK _ _ ⟨u0, u1, u2, u3, u4, u5, u6, u7, u8, u9, true, true, true, u13, u14, false, M, rfl, rfl, (bc (zu H_kB) hb8), (fun h => ⟨(zu H_kM h).1, fun h2 => ((zu H_kM h).2 h2).bel hb8⟩), (fun h => nomatch h), zu H_c2, zu H_c5, zu H_c9, (fun _ => ⟨rfl, rfl⟩), (fun h => ⟨(zu H_c13 h).1, (zu H_c13 h).2.1, (zu H_c13 h).2.2.1, (zu H_c13 h).2.2.2.1, rfl⟩), (fun h => nomatch h)⟩
  ·intro h0 hd K hK
   have z : u13 = false := h0
   have z15_ : u15 = false := by
    cases hu : u15 with
    | false => rfl
    | true => exact nomatch z.symm.trans ((kF hu).2.2.2.2.2.2.2.2.2.2.2.2.2.1)
   have zd : u2 = true ∧ u5 = true ∧ u6 = true ∧ u9 = true ∧ u12 = true := by
    simp [Region.binds] at hd
    simp [hd]
   have H_kB := hide kB
   have H_kM := hide kM
   have H_kZ := hide kZ
   have H_c2 := hide c2
   have H_c5 := hide c5
   have H_c9 := hide c9
   have H_c12 := hide c12
   have H_c13 := hide c13
   have H_kF := hide kF
   clear kB kM kZ c2 c5 c9 c12 c13 kF
   obtain ⟨rfl, rfl, rfl, rfl, rfl⟩ := zd
   subst z15_
   subst z
   clear h0 hd
   rw [if_pos (by rfl)]
   go_simp
   exact zu hK _ _ ⟨u0, u1, true, u3, u4, true, true, u7, u8, true, u10, u11, true, true, u14, false, M, rfl, rfl, zu H_kB, zu H_kM, (fun h => nomatch h), zu H_c2, zu H_c5, zu H_c9, zu H_c12, (fun _ => ⟨rfl, rfl, rfl, rfl, rfl⟩), (fun h => nomatch h)⟩
  ·intro h0 hd K hK
   have z : u14 = false := h0
   have z15_ : u15 = false := by
    cases hu : u15 with
    | false => rfl
    | true => exact nomatch z.symm.trans ((kF hu).2.2.2.2.2.2.2.2.2.2.2.2.2.2)
   have H_kB := hide kB
   have H_kM := hide kM
   have H_kZ := hide kZ
   have H_c2 := hide c2
   have H_c5 := hide c5
   have H_c9 := hide c9
   have H_c12 := hide c12
   have H_c13 := hide c13
   have H_kF := hide kF
   clear kB kM kZ c2 c5 c9 c12 c13 kF
   subst z15_
   subst z
   clear h0 hd
   rw [if_pos (by rfl)]
   go_simp
   exact zu hK _ _ ⟨u0, u1, u2, u3, u4, u5, u6, u7, u8, u9, u10, u11, u12, u13, true, false, W.heap.size, rfl, rfl, (ba (zu H_kB) _), (fun _ => ⟨(zu H_kB).size, fun _ => cb_new W 26 z5 _ rfl⟩), (fun h => nomatch h), zu H_c2, zu H_c5, zu H_c9, zu H_c12, zu H_c13, (fun h => nomatch h)⟩
  ·intro h0 hd K hK
   have z : u15 = false := h0
   have zd : u14 = true ∧ u13 = true ∧ u0 = true ∧ u1 = true ∧ u2 = true ∧ u3 = true ∧ u4 = true ∧ u5 = true ∧ u6 = true ∧ u7 = true ∧ u8 = true ∧ u9 = true ∧ u10 = true ∧ u11 = true ∧ u12 = true := by
    simp [Region.binds] at hd
    simp_all
   have H_kB := hide kB
   have H_kM := hide kM
   have H_kZ := hide kZ
   have H_c2 := hide c2
   have H_c5 := hide c5
   have H_c9 := hide c9
   have H_c12 := hide c12
   have H_c13 := hide c13
   have H_kF := hide kF
   clear kB kM kZ c2 c5 c9 c12 c13 kF
   obtain ⟨rfl, rfl, rfl, rfl, rfl, rfl, rfl, rfl, rfl, rfl, rfl, rfl, rfl, rfl, rfl⟩ := zd
   subst z
   clear h0 hd
   rw [if_pos (by rfl)]
   obtain ⟨hm1, hm2⟩ := zu H_kM rfl
   have vz := hm2 rfl
   have fz := vz.frozen
   have q0 := vz.cell (m := 0) rfl
   have q1 := vz.cell (m := 1) rfl
   have q2 := vz.cell (m := 2) rfl
   have q3 := vz.cell (m := 3) rfl
   have q4 := vz.cell (m := 4) rfl
   have HVZ := hide vz
   have HM1 := hide hm1
   clear vz hm2 hm1
   go_simp
   exact zu hK _ _ ⟨true, true, true, true, true, true, true, true, true, true, true, true, true, true, true, true, M, rfl, rfl, (Below.setCell (Below.setCell (Below.setCell (Below.setCell (Below.setCell (zu H_kB) (zu HM1) _) (zu HM1) _) (zu HM1) _) (zu HM1) _) (zu HM1) _), (fun _ => ⟨zu HM1, (fun h => nomatch h)⟩), (fun _ => ((((((zu HVZ).set 0 _).set 1 _).set 2 _).set 3 _).set 4 _)), (fun _ => ⟨rfl, rfl⟩), (fun _ => ⟨rfl, rfl⟩), (fun _ => ⟨rfl, rfl⟩), (fun _ => ⟨rfl, rfl⟩), (fun _ => ⟨rfl, rfl, rfl, rfl, rfl⟩), (fun _ => ⟨rfl, rfl, rfl, rfl, rfl, rfl, rfl, rfl, rfl, rfl, rfl, rfl, rfl, rfl, rfl⟩)⟩
 case hend =>
  rintro Lb A W ⟨u0, u1, u2, u3, u4, u5, u6, u7, u8, u9, u10, u11, u12, u13, u14, u15, M, rfl, rfl, kB, kM, kZ, c2, c5, c9, c12, c13, kF⟩ hL
  have hl : u0 = true ∧ u1 = true ∧ u2 = true ∧ u3 = true ∧ u4 = true ∧ u5 = true ∧ u6 = true ∧ u7 = true ∧ u8 = true ∧ u9 = true ∧ u10 = true ∧ u11 = true ∧ u12 = true ∧ u13 = true ∧ u14 = true ∧ u15 = true := by
   have h2 := congrArg Array.toList hL
   simpa [List.replicate] using h2
  obtain ⟨rfl, rfl, rfl, rfl, rfl, rfl, rfl, rfl, rfl, rfl, rfl, rfl, rfl, rfl, rfl, rfl⟩ := hl
  exact zu HQ M W kB (kM rfl).1 (kZ rfl)
set_option maxHeartbeats 4000000 in
set_option maxRecDepth 100000 in
theorem zm10 {s0 s1 s2 s3 s6 s7 s8 s9 s10 s11 s12 s13 s14 s15 s16 s17 s18 s19 s20 s21 s22 s23 s24 s25 s26 s27 s28 s29 s30 s31 s32 s33 s34 s35 s36 s37 s38 s39 s40 s41 s42 s43 s44 s45 s46 s47 s48 s49 s50 s51 s52 s53 s54 s55 s56 s57 s58 s59 s60 s61 s62 s63 s64 s65 s66 s67 s68 s69 s70 s71 s72 s73 s74 s75 s76 s77 s78 s79 s80 s81 s82 s83 s84 s85 s86 s87 s88 s89 s90 s91 s92 s93 s94 s95 s96 s97 s98 s99 s100 s101 s102 s103 s104 s105 s106 s107 s108 s109 s110 s111 s112 s113 s114 s115 s116 s117 s118 s119 s120 s121 s122 s123 s124 s125 s126 s127 s128 s129 s130 s131 s132 s133 s134 s135 s136 : Value} {gh m ch q b5 : Nat} {a1 a2 c1 c2 dd zd : Int} {V : World} {K_ : Act → World → Prop} (hb5 : b5 < V.heap.size)
  (HA0 : Hid (V.cell? ⟨gh, 0, none⟩ = some (.int .i64 a1))) (HA1 : Hid (V.cell? ⟨gh, 1, none⟩ = some (.int .i64 a2))) (HC0 : Hid (V.cell? ⟨gh, q * 2, none⟩ = some (.int .i64 c1))) (HC1 : Hid (V.cell? ⟨gh, q * 2 + 1, none⟩ = some (.int .i64 c2)))
  (HWQ : Hid (IntKind.i64.wrap ((m : Int) - 1) = (q : Int))) (HQM : Hid ((q : Int) < (m : Int))) (HM1 : Hid ((0 : Int) < (m : Int)))
  (H5 : Hid (V.cell? ⟨b5, 4, none⟩ = some (.int .i64 zd))) (H5f : Hid (V.frozen? ⟨b5, 4, none⟩ = false))
  (HD : Hid (∀ X, Below V.heap.size V X → Calls Try.prog 30 #[.agg #[.int .i64 (a1), .int .i64 (a2)], .agg #[.int .i64 (c1), .int .i64 (c2)]] X fun e w' => e = .returned (.int .i64 (dd)) ∧ Below X.heap.size X w'))
  (hQ : ∀ (W1 : World), Below V.heap.size V W1 → K_ { tmps := #[s0, s1, s2, s3, .slice (some ⟨gh, 0, none⟩) m ch, .pointer (some ⟨b5, 0, none⟩), s6, s7, s8, s9, s10, s11, s12, s13, s14, s15, s16, s17, s18, s19, s20, s21, s22, s23, s24, s25, s26, s27, s28, s29, s30, s31, s32, s33, s34, s35, s36, s37, s38, s39, s40, s41, s42, s43, s44, .slice (some ⟨gh, 0, none⟩) m ch, .pointer (some ⟨gh, 0, none⟩), .agg #[.int .i64 (a1), .int .i64 (a2)], .slice (some ⟨gh, 0, none⟩) m ch, .slice (some ⟨gh, 0, none⟩) m ch, .int .i64 (m : Int), .int .i64 (q : Int), .pointer (some ⟨gh, q * 2, none⟩), .agg #[.int .i64 (c1), .int .i64 (c2)], .int .i64 (dd), .int .i64 (max dd 1), .pointer (some ⟨b5, 4, none⟩), s57, s58, s59, s60, s61, s62, s63, s64, s65, s66, s67, s68, s69, s70, s71, s72, s73, s74, s75, s76, s77, s78, s79, s80, s81, s82, s83, s84, s85, s86, s87, s88, s89, s90, s91, s92, s93, s94, s95, s96, s97, s98, s99, s100, s101, s102, s103, s104, s105, s106, s107, s108, s109, s110, s111, s112, s113, s114, s115, s116, s117, s118, s119, s120, s121, s122, s123, s124, s125, s126, s127, s128, s129, s130, s131, s132, s133, s134, s135, s136], defers := [] } (W1.setCell ⟨b5, 4, none⟩ (.int .i64 (max dd 1)))) :
  Go.Code.wp Try.prog (reg8 10) (Only K_) { tmps := #[s0, s1, s2, s3, .slice (some ⟨gh, 0, none⟩) m ch, .pointer (some ⟨b5, 0, none⟩), s6, s7, s8, s9, s10, s11, s12, s13, s14, s15, s16, s17, s18, s19, s20, s21, s22, s23, s24, s25, s26, s27, s28, s29, s30, s31, s32, s33, s34, s35, s36, s37, s38, s39, s40, s41, s42, s43, s44, s45, s46, s47, s48, s49, s50, s51, s52, s53, s54, s55, s56, s57, s58, s59, s60, s61, s62, s63, s64, s65, s66, s67, s68, s69, s70, s71, s72, s73, s74, s75, s76, s77, s78, s79, s80, s81, s82, s83, s84, s85, s86, s87, s88, s89, s90, s91, s92, s93, s94, s95, s96, s97, s98, s99, s100, s101, s102, s103, s104, s105, s106, s107, s108, s109, s110, s111, s112, s113, s114, s115, s116, s117, s118, s119, s120, s121, s122, s123, s124, s125, s126, s127, s128, s129, s130, s131, s132, s133, s134, s135, s136], defers := [] } V := by
 have HQ := hide hQ
 clear hQ
 conv => arg 2; whnf
 refine wp_region_inv (fun Lb A W => ∃ (u0 u1 u2 u3 u4 u5 u6 u7 u8 u9 u10 u11 u12 : Bool) (dm : Nat), Lb = #[u0, u1, u2, u3, u4, u5, u6, u7, u8, u9, u10, u11, u12] ∧ A = ({ tmps := #[s0, s1, s2, s3, .slice (some ⟨gh, 0, none⟩) m ch, .pointer (some ⟨b5, 0, none⟩), s6, s7, s8, s9, s10, s11, s12, s13, s14, s15, s16, s17, s18, s19, s20, s21, s22, s23, s24, s25, s26, s27, s28, s29, s30, s31, s32, s33, s34, s35, s36, s37, s38, s39, s40, s41, s42, s43, s44, (bif u0 then .slice (some ⟨gh, 0, none⟩) m ch else s45), (bif u1 then .pointer (some ⟨gh, 0, none⟩) else s46), (bif u2 then .agg #[.int .i64 (a1), .int .i64 (a2)] else s47), (bif u3 then .slice (some ⟨gh, 0, none⟩) m ch else s48), (bif u4 then .slice (some ⟨gh, 0, none⟩) m ch else s49), (bif u5 then .int .i64 (m : Int) else s50), (bif u6 then .int .i64 (q : Int) else s51), (bif u7 then .pointer (some ⟨gh, q * 2, none⟩) else s52), (bif u8 then .agg #[.int .i64 (c1), .int .i64 (c2)] else s53), (bif u9 then .int .i64 (dd) else s54), (bif u10 then .int .i64 (max dd 1) else s55), (bif u11 then .pointer (some ⟨b5, 4, none⟩) else s56), s57, s58, s59, s60, s61, s62, s63, s64, s65, s66, s67, s68, s69, s70, s71, s72, s73, s74, s75, s76, s77, s78, s79, s80, s81, s82, s83, s84, s85, s86, s87, s88, s89, s90, s91, s92, s93, s94, s95, s96, s97, s98, s99, s100, s101, s102, s103, s104, s105, s106, s107, s108, s109, s110, s111, s112, s113, s114, s115, s116, s117, s118, s119, s120, s121, s122, s123, s124, s125, s126, s127, s128, s129, s130, s131, s132, s133, s134, s135, s136], defers := [] } : Act) ∧ (u12 = false → Below V.heap.size V W) ∧ (u12 = true → ∃ W1, Below V.heap.size V W1 ∧ W = W1.setCell ⟨b5, 4, none⟩ (.int .i64 (max dd 1))) ∧ (u1 = true → u0 = true) ∧ (u2 = true → u1 = true) ∧ (u5 = true → u4 = true) ∧ (u6 = true → u5 = true) ∧ (u7 = true → u3 = true ∧ u6 = true) ∧ (u8 = true → u7 = true) ∧ (u9 = true → u2 = true ∧ u8 = true) ∧ (u10 = true → u9 = true) ∧ (u12 = true → u0 = true ∧ u1 = true ∧ u2 = true ∧ u3 = true ∧ u4 = true ∧ u5 = true ∧ u6 = true ∧ u7 = true ∧ u8 = true ∧ u9 = true ∧ u10 = true ∧ u11 = true)) (by kernel_rfl) (by kernel_rfl) ?h0 ?hstep ?hend
 case h0 =>
  exact ⟨false, false, false, false, false, false, false, false, false, false, false, false, false, 0, rfl, rfl, (fun _ => Below.drew (Below.refl _ _)), (fun h => nomatch h), (fun h => nomatch h), (fun h => nomatch h), (fun h => nomatch h), (fun h => nomatch h), (fun h => nomatch h), (fun h => nomatch h), (fun h => nomatch h), (fun h => nomatch h), (fun h => nomatch h)⟩
 case hstep =>
  rintro Lb A W ⟨u0, u1, u2, u3, u4, u5, u6, u7, u8, u9, u10, u11, u12, dm, rfl, rfl, kB, kZ, c1, c2, c5, c6, c7, c8, c9, c10, kF⟩
  refine ⟨?_, ?_, ?_, ?_, ?_, ?_, ?_, ?_, ?_, ?_, ?_, ?_, ?_, trivial⟩
  ·intro h0 hd K hK
   have z : u0 = false := h0
   have z12_ : u12 = false := by
    cases hu : u12 with
    | false => rfl
    | true => exact nomatch z.symm.trans ((kF hu).1)
   have H_kB := hide kB
   have H_kZ := hide kZ
   have H_c1 := hide c1
   have H_c2 := hide c2
   have H_c5 := hide c5
   have H_c6 := hide c6
   have H_c7 := hide c7
   have H_c8 := hide c8
   have H_c9 := hide c9
   have H_c10 := hide c10
   have H_kF := hide kF
   clear kB kZ c1 c2 c5 c6 c7 c8 c9 c10 kF
   subst z12_
   subst z
   clear h0 hd
   rw [if_pos (by rfl)]
   go_simp
   exact zu hK _ _ ⟨true, u1, u2, u3, u4, u5, u6, u7, u8, u9, u10, u11, false, dm, rfl, rfl, zu H_kB, (fun h => nomatch h), (fun h => rfl), zu H_c2, zu H_c5, zu H_c6, zu H_c7, zu H_c8, zu H_c9, zu H_c10, (fun h => nomatch h)⟩
  ·intro h0 hd K hK
   have z : u1 = false := h0
   have z12_ : u12 = false := by
    cases hu : u12 with
    | false => rfl
    | true => exact nomatch z.symm.trans ((kF hu).2.1)
   have zd : u0 = true := by
    simp [Region.binds] at hd
    simp [hd]
   have H_kB := hide kB
   have H_kZ := hide kZ
   have H_c1 := hide c1
   have H_c2 := hide c2
   have H_c5 := hide c5
   have H_c6 := hide c6
   have H_c7 := hide c7
   have H_c8 := hide c8
   have H_c9 := hide c9
   have H_c10 := hide c10
   have H_kF := hide kF
   clear kB kZ c1 c2 c5 c6 c7 c8 c9 c10 kF
   obtain ⟨rfl⟩ := zd
   subst z12_
   subst z
   clear h0 hd
   rw [if_pos (by rfl)]
   have q1 := zu HM1
   have q2 : 0 < m := by omega
   go_simp
   exact zu hK _ _ ⟨true, true, u2, u3, u4, u5, u6, u7, u8, u9, u10, u11, false, dm, rfl, rfl, zu H_kB, (fun h => nomatch h), (fun _ => rfl), (fun h => rfl), zu H_c5, zu H_c6, zu H_c7, zu H_c8, zu H_c9, zu H_c10, (fun h => nomatch h)⟩
  ·intro h0 hd K hK
   have z : u2 = false := h0
   have z12_ : u12 = false := by
    cases hu : u12 with
    | false => rfl
    | true => exact nomatch z.symm.trans ((kF hu).2.2.1)
   have zd : u1 = true := by
    simp [Region.binds] at hd
    simp [hd]
   have H_kB := hide kB
   have H_kZ := hide kZ
   have H_c1 := hide c1
   have H_c2 := hide c2
   have H_c5 := hide c5
   have H_c6 := hide c6
   have H_c7 := hide c7
   have H_c8 := hide c8
   have H_c9 := hide c9
   have H_c10 := hide c10
   have H_kF := hide kF
   clear kB kZ c1 c2 c5 c6 c7 c8 c9 c10 kF
   obtain ⟨rfl⟩ := zd
   subst z12_
   subst z
   clear h0 hd
   rw [if_pos (by rfl)]
   have c0 := keep1 (zu H_kB rfl) (zu HA0)
   have c1 := keep1 (zu H_kB rfl) (zu HA1)
   go_simp
   exact zu hK _ _ ⟨u0, true, true, u3, u4, u5, u6, u7, u8, u9, u10, u11, false, dm, rfl, rfl, zu H_kB, (fun h => nomatch h), zu H_c1, (fun _ => rfl), zu H_c5, zu H_c6, zu H_c7, zu H_c8, (fun h => ⟨rfl, (zu H_c9 h).2⟩), zu H_c10, (fun h => nomatch h)⟩
  ·intro h0 hd K hK
   have z : u3 = false := h0
   have z12_ : u12 = false := by
    cases hu : u12 with
    | false => rfl
    | true => exact nomatch z.symm.trans ((kF hu).2.2.2.1)
   have H_kB := hide kB
   have H_kZ := hide kZ
   have H_c1 := hide c1
   have H_c2 := hide c2
   have H_c5 := hide c5
   have H_c6 := hide c6
   have H_c7 := hide c7
   have H_c8 := hide c8
   have H_c9 := hide c9
   have H_c10 := hide c10
   have H_kF := hide kF
   clear kB kZ c1 c2 c5 c6 c7 c8 c9 c10 kF
   subst z12_
   subst z
   clear h0 hd
   rw [if_pos (by rfl)]
   go_simp
   exact zu hK _ _ ⟨u0, u1, u2, true, u4, u5, u6, u7, u8, u9, u10, u11, false, dm, rfl, rfl, zu H_kB, (fun h => nomatch h), zu H_c1, zu H_c2, zu H_c5, zu H_c6, (fun h => ⟨rfl, (zu H_c7 h).2⟩), zu H_c8, zu H_c9, zu H_c10, (fun h => nomatch h)⟩
  ·intro h0 hd K hK
   have z : u4 = false := h0
   have z12_ : u12 = false := by
    cases hu : u12 with
    | false => rfl
    | true => exact nomatch z.symm.trans ((kF hu).2.2.2.2.1)
   have H_kB := hide kB
   have H_kZ := hide kZ
   have H_c1 := hide c1
   have H_c2 := hide c2
   have H_c5 := hide c5
   have H_c6 := hide c6
   have H_c7 := hide c7
   have H_c8 := hide c8
   have H_c9 := hide c9
   have H_c10 := hide c10
   have H_kF := hide kF
   clear kB kZ c1 c2 c5 c6 c7 c8 c9 c10 kF
   subst z12_
   subst z
   clear h0 hd
   rw [if_pos (by rfl)]
   go_simp
   exact zu hK _ _ ⟨u0, u1, u2, u3, true, u5, u6, u7, u8, u9, u10, u11, false, dm, rfl, rfl, zu H_kB, (fun h => nomatch h), zu H_c1, zu H_c2, (fun h => rfl), zu H_c6, zu H_c7, zu H_c8, zu H_c9, zu H_c10, (fun h => nomatch h)⟩
  ·intro h0 hd K hK
   have z : u5 = false := h0
   have z12_ : u12 = false := by
    cases hu : u12 with
    | false => rfl
    | true => exact nomatch z.symm.trans ((kF hu).2.2.2.2.2.1)
   have zd : u4 = true := by
    simp [Region.binds] at hd
    simp [hd]
   have H_kB := hide kB
   have H_kZ := hide kZ
   have H_c1 := hide c1
   have H_c2 := hide c2
   have H_c5 := hide c5
   have H_c6 := hide c6
   have H_c7 := hide c7
   have H_c8 := hide c8
   have H_c9 := hide c9
   have H_c10 := hide c10
   have H_kF := hide kF
   clear kB kZ c1 c2 c5 c6 c7 c8 c9 c10 kF
   obtain ⟨rfl⟩ := zd
   subst z12_
   subst z
   clear h0 hd
   rw [if_pos (by rfl)]
   go_simp
   exact zu hK _ _ ⟨u0, u1, u2, u3, true, true, u6, u7, u8, u9, u10, u11, false, dm, rfl, rfl, zu H_kB, (fun h => nomatch h), zu H_c1, zu H_c2, (fun _ => rfl), (fun h => rfl), zu H_c7, zu H_c8, zu H_c9, zu H_c10, (fun h => nomatch h)⟩
  ·intro h0 hd K hK
   have z : u6 = false := h0
   have z12_ : u12 = false := by
    cases hu : u12 with
    | false => rfl
    | true => exact nomatch z.symm.trans ((kF hu).2.2.2.2.2.2.1)
   have zd : u5 = true := by
    simp [Region.binds] at hd
    simp [hd]
   have H_kB := hide kB
   have H_kZ := hide kZ
   have H_c1 := hide c1
   have H_c2 := hide c2
   have H_c5 := hide c5
   have H_c6 := hide c6
   have H_c7 := hide c7
   have H_c8 := hide c8
   have H_c9 := hide c9
   have H_c10 := hide c10
   have H_kF := hide kF
   clear kB kZ c1 c2 c5 c6 c7 c8 c9 c10 kF
   obtain ⟨rfl⟩ := zd
   subst z12_
   subst z
   clear h0 hd
   rw [if_pos (by rfl)]
   have wq := zu HWQ
   go_simp
   exact zu hK _ _ ⟨u0, u1, u2, u3, u4, true, true, u7, u8, u9, u10, u11, false, dm, rfl, rfl, zu H_kB, (fun h => nomatch h), zu H_c1, zu H_c2, zu H_c5, (fun _ => rfl), (fun h => ⟨(zu H_c7 h).1, rfl⟩), zu H_c8, zu H_c9, zu H_c10, (fun h => nomatch h)⟩
  ·intro h0 hd K hK
   have z : u7 = false := h0
   have z12_ : u12 = false := by
    cases hu : u12 with
    | false => rfl
    | true => exact nomatch z.symm.trans ((kF hu).2.2.2.2.2.2.2.1)
   have zd : u3 = true ∧ u6 = true := by
    simp [Region.binds] at hd
    simp [hd]
   have H_kB := hide kB
   have H_kZ := hide kZ
   have H_c1 := hide c1
   have H_c2 := hide c2
   have H_c5 := hide c5
   have H_c6 := hide c6
   have H_c7 := hide c7
   have H_c8 := hide c8
   have H_c9 := hide c9
   have H_c10 := hide c10
   have H_kF := hide kF
   clear kB kZ c1 c2 c5 c6 c7 c8 c9 c10 kF
   obtain ⟨rfl, rfl⟩ := zd
   subst z12_
   subst z
   clear h0 hd
   rw [if_pos (by rfl)]
   have q1 := zu HQM
   have q0 : (0 : Int) ≤ (q : Int) := Int.natCast_nonneg _
   have q2 : q < m := by omega
   go_simp
   exact zu hK _ _ ⟨u0, u1, u2, true, u4, u5, true, true, u8, u9, u10, u11, false, dm, rfl, rfl, zu H_kB, (fun h => nomatch h), zu H_c1, zu H_c2, zu H_c5, zu H_c6, (fun _ => ⟨rfl, rfl⟩), (fun h => rfl), zu H_c9, zu H_c10, (fun h => nomatch h)⟩
  ·intro h0 hd K hK
   have z : u8 = false := h0
   have z12_ : u12 = false := by
    cases hu : u12 with
    | false => rfl
    | true => exact nomatch z.symm.trans ((kF hu).2.2.2.2.2.2.2.2.1)
   have zd : u7 = true := by
    simp [Region.binds] at hd
    simp [hd]
   have H_kB := hide kB
   have H_kZ := hide kZ
   have H_c1 := hide c1
   have H_c2 := hide c2
   have H_c5 := hide c5
   have H_c6 := hide c6
   have H_c7 := hide c7
   have H_c8 := hide c8
   have H_c9 := hide c9
   have H_c10 := hide c10
   have H_kF := hide kF
   clear kB kZ c1 c2 c5 c6 c7 c8 c9 c10 kF
   obtain ⟨rfl⟩ := zd
   subst z12_
   subst z
   clear h0 hd
   rw [if_pos (by rfl)]
   have c0 := keep1 (zu H_kB rfl) (zu HC0)
   have c1 := keep1 (zu H_kB rfl) (zu HC1)
   go_simp
   exact zu hK _ _ ⟨u0, u1, u2, u3, u4, u5, u6, true, true, u9, u10, u11, false, dm, rfl, rfl, zu H_kB, (fun h => nomatch h), zu H_c1, zu H_c2, zu H_c5, zu H_c6, zu H_c7, (fun _ => rfl), (fun h => ⟨(zu H_c9 h).1, rfl⟩), zu H_c10, (fun h => nomatch h)⟩
  ·intro h0 hd K hK
   have z : u9 = false := h0
   have z12_ : u12 = false := by
    cases hu : u12 with
    | false => rfl
    | true => exact nomatch z.symm.trans ((kF hu).2.2.2.2.2.2.2.2.2.1)
   have zd : u2 = true ∧ u8 = true := by
    simp [Region.binds] at hd
    simp [hd]
   have H_kB := hide kB
   have H_kZ := hide kZ
   have H_c1 := hide c1
   have H_c2 := hide c2
   have H_c5 := hide c5
   have H_c6 := hide c6
   have H_c7 := hide c7
   have H_c8 := hide c8
   have H_c9 := hide c9
   have H_c10 := hide c10
   have H_kF := hide kF
   clear kB kZ c1 c2 c5 c6 c7 c8 c9 c10 kF
   obtain ⟨rfl, rfl⟩ := zd
   subst z12_
   subst z
   clear h0 hd
   rw [if_pos (by rfl)]
   go_simp
   refine (zu HD W (zu H_kB rfl)).mono ?_
   rintro e w8 ⟨rfl, hb8⟩
   exact zu hK _ _ ⟨u0, u1, true, u3, u4, u5, u6, u7, true, true, u10, u11, false, dm, rfl, rfl, (fun _ => bc (zu H_kB rfl) hb8), (fun h => nomatch h), zu H_c1, zu H_c2, zu H_c5, zu H_c6, zu H_c7, zu H_c8, (fun _ => ⟨rfl, rfl⟩), (fun h => rfl), (fun h => nomatch h)⟩
  ·intro h0 hd K hK
   have z : u10 = false := h0
   have z12_ : u12 = false := by
    cases hu : u12 with
    | false => rfl
    | true => exact nomatch z.symm.trans ((kF hu).2.2.2.2.2.2.2.2.2.2.1)
   have zd : u9 = true := by
    simp [Region.binds] at hd
    simp [hd]
   have H_kB := hide kB
   have H_kZ := hide kZ
   have H_c1 := hide c1
   have H_c2 := hide c2
   have H_c5 := hide c5
   have H_c6 := hide c6
   have H_c7 := hide c7
   have H_c8 := hide c8
   have H_c9 := hide c9
   have H_c10 := hide c10
   have H_kF := hide kF
   clear kB kZ c1 c2 c5 c6 c7 c8 c9 c10 kF
   obtain ⟨rfl⟩ := zd
   subst z12_
   subst z
   clear h0 hd
   rw [if_pos (by rfl)]
   go_simp
   exact zu hK _ _ ⟨u0, u1, u2, u3, u4, u5, u6, u7, u8, true, true, u11, false, dm, rfl, rfl, zu H_kB, (fun h => nomatch h), zu H_c1, zu H_c2, zu H_c5, zu H_c6, zu H_c7, zu H_c8, zu H_c9, (fun _ => rfl), (fun h => nomatch h)⟩
  ·intro h0 hd K hK
   have z : u11 = false := h0
   have z12_ : u12 = false := by
    cases hu : u12 with
    | false => rfl
    | true => exact nomatch z.symm.trans ((kF hu).2.2.2.2.2.2.2.2.2.2.2)
   have H_kB := hide kB
   have H_kZ := hide kZ
   have H_c1 := hide c1
   have H_c2 := hide c2
   have H_c5 := hide c5
   have H_c6 := hide c6
   have H_c7 := hide c7
   have H_c8 := hide c8
   have H_c9 := hide c9
   have H_c10 := hide c10
   have H_kF := hide kF
   clear kB kZ c1 c2 c5 c6 c7 c8 c9 c10 kF
   subst z12_
   subst z
   clear h0 hd
   rw [if_pos (by rfl)]
   go_simp
   exact zu hK _ _ ⟨u0, u1, u2, u3, u4, u5, u6, u7, u8, u9, u10, true, false, dm, rfl, rfl, zu H_kB, (fun h => nomatch h), zu H_c1, zu H_c2, zu H_c5, zu H_c6, zu H_c7, zu H_c8, zu H_c9, zu H_c10, (fun h => nomatch h)⟩
  ·intro h0 hd K hK
   have z : u12 = false := h0
   have zd : u11 = true ∧ u10 = true ∧ u0 = true ∧ u1 = true ∧ u2 = true ∧ u3 = true ∧ u4 = true ∧ u5 = true ∧ u6 = true ∧ u7 = true ∧ u8 = true ∧ u9 = true := by
    simp [Region.binds] at hd
    simp_all
   have H_kB := hide kB
   have H_kZ := hide kZ
   have H_c1 := hide c1
   have H_c2 := hide c2
   have H_c5 := hide c5
   have H_c6 := hide c6
   have H_c7 := hide c7
   have H_c8 := hide c8
   have H_c9 := hide c9
   have H_c10 := hide c10
   have H_kF := hide kF
   clear kB kZ c1 c2 c5 c6 c7 c8 c9 c10 kF
   obtain ⟨rfl, rfl, rfl, rfl, rfl, rfl, rfl, rfl, rfl, rfl, rfl, rfl⟩ := zd
   subst z
   clear h0 hd
   rw [if_pos (by rfl)]
   have hB := (zu H_kB rfl)
   have q4 := keep1 hB (zu H5)
   have fz : W.frozen? ⟨b5, 4, none⟩ = false := keepz hB hb5 (zu H5f)
   have HBB := hide hB
   clear hB
   go_simp
   exact zu hK _ _ ⟨true, true, true, true, true, true, true, true, true, true, true, true, true, dm, rfl, rfl, (fun h => nomatch h), (fun _ => ⟨W, zu HBB, rfl⟩), (fun _ => rfl), (fun _ => rfl), (fun _ => rfl), (fun _ => rfl), (fun _ => ⟨rfl, rfl⟩), (fun _ => rfl), (fun _ => ⟨rfl, rfl⟩), (fun _ => rfl), (fun _ => ⟨rfl, rfl, rfl, rfl, rfl, rfl, rfl, rfl, rfl, rfl, rfl, rfl⟩)⟩
 case hend =>
  rintro Lb A W ⟨u0, u1, u2, u3, u4, u5, u6, u7, u8, u9, u10, u11, u12, dm, rfl, rfl, kB, kZ, c1, c2, c5, c6, c7, c8, c9, c10, kF⟩ hL
  have hl : u0 = true ∧ u1 = true ∧ u2 = true ∧ u3 = true ∧ u4 = true ∧ u5 = true ∧ u6 = true ∧ u7 = true ∧ u8 = true ∧ u9 = true ∧ u10 = true ∧ u11 = true ∧ u12 = true := by
   have h2 := congrArg Array.toList hL
   simpa [List.replicate] using h2
  obtain ⟨rfl, rfl, rfl, rfl, rfl, rfl, rfl, rfl, rfl, rfl, rfl, rfl, rfl⟩ := hl
  obtain ⟨W1, hA, rfl⟩ := kZ rfl
  exact zu HQ W1 hA
end Go.Proofs.Ytdcecfgmfmpeeaa
