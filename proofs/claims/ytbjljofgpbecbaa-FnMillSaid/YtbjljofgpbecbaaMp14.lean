/-
  One statement of the program's milling by moves, walked alone: a way is milled.
-/
import Derived.Test.YtbjljofgpbecbaaAft
import Derived.Test.YtbjljofgpbecbaaPlt
import Derived.Test.YtbjljofgpbecbaaMilMath
import Derived.Test.YtbjljofgpbecbaaPrs
import Derived.Test.YtbjljofgpbecbaaInv2
namespace Go.Proofs.Ytbjljofgpbecbaa
open Go.ChangeShapes Go.WideShapes Go.ChangeAt Go.RowKit
set_option linter.unusedVariables false
set_option linter.unusedSimpArgs false

noncomputable def reg11 (id : Nat) : Go.Code := match Try.f11.body with | some c => (regOf id c).getD .skip | none => .skip
set_option maxHeartbeats 4000000 in
set_option maxRecDepth 100000 in
theorem mp14 {s0 s1 s3 s4 s6 s7 s8 s11 s15 s16 s17 s18 s19 s20 s21 s22 s23 s24 s25 s26 s27 s28 s29 s30 s31 s32 s33 s34 s35 s36 s37 s38 s39 s40 s41 s42 s43 s44 s45 s46 s47 s48 s49 s50 s51 s52 s53 s54 s55 s56 s57 s58 s59 s60 s61 s62 s63 s64 s65 s66 s67 s68 s69 s70 s71 s72 s73 s74 s75 s76 s77 s78 s79 s80 s81 s82 s83 s84 : Value} {Wd Hd r g po c n b5 b9 b10 b12 b13 b14 q cap N : Nat} {fx fy fz tx ty tz : Int} {fa : Bool} {s : Ml} {L : List Int} {Rf : Ml → Int → Prop} {V : World} {K_ : Act → World → Prop}
    (HP : Hid (vb V b5 25 [.int .i64 (Wd : Int), .int .i64 (Hd : Int), .slice (some ⟨g, po, none⟩) n c])) (HD : Hid (vb V b9 31 [.int .i64 0, .int .i64 0, .int .i64 (Wd : Int), .int .i64 (Hd : Int), .slice (some ⟨q, 0, none⟩) n cap, .int .i64 s.cut, .int .i64 s.air, .int .i64 s.dep])) (HF : Hid (vb V b10 68 [.int .i64 fx, .int .i64 fy, .int .i64 fz])) (HT : Hid (vb V b13 68 [.int .i64 tx, .int .i64 ty, .int .i64 tz])) (HM : Hid (V.cell? ⟨b12, 0, none⟩ = some (.bool fa))) (HZ : Hid (vb V b14 31 [.int .i64 0, .int .i64 0, .int .i64 0, .int .i64 0, .slice none 0 0, .int .i64 0, .int .i64 0, .int .i64 0]))
    (HC44 : Hid (∀ X, Below V.heap.size V X → Calls Try.prog 44 #[.agg #[.int .i64 fx, .int .i64 fy, .int .i64 fz], .agg #[.int .i64 tx, .int .i64 ty, .int .i64 tz]] X fun e w' => (∃ wv cw, e = .returned (.slice (some ⟨wv, 0, none⟩) N cw) ∧ wv < w'.heap.size ∧ IntsAt w' wv 0 L) ∧ Below X.heap.size X w'))
    (HC43 : Hid (∀ wv cw X, Below V.heap.size V X → wv < X.heap.size → IntsAt X wv 0 L → Calls Try.prog 43 #[.agg #[.int .i64 0, .int .i64 0, .int .i64 (Wd : Int), .int .i64 (Hd : Int), .slice (some ⟨q, 0, none⟩) n cap, .int .i64 s.cut, .int .i64 s.air, .int .i64 s.dep], .slice (some ⟨wv, 0, none⟩) N cw, .agg #[.int .i64 (Wd : Int), .int .i64 (Hd : Int), .slice (some ⟨g, po, none⟩) n c], .int .i64 (r : Int), .bool fa] X fun x w' => (∃ q2 cap2 s2 cd, x = .returned (.tuple #[.agg #[.int .i64 0, .int .i64 0, .int .i64 (Wd : Int), .int .i64 (Hd : Int), .slice (some ⟨q2, 0, none⟩) n cap2, .int .i64 s2.cut, .int .i64 s2.air, .int .i64 s2.dep], .int .i64 cd]) ∧ Row w' X.heap.size 3 1 (.slice (some ⟨q2, 0, none⟩) n cap2) n s2.T ∧ Rf s2 cd) ∧ Below X.heap.size X w'))
    (hQ : ∀ (y63 y64 y65 y66 y67 y68 y69 y70 y71 y62 y72 y73 : Value) (q2 cap2 : Nat) (s2 : Ml) (cd : Int) (W' : World), Row W' V.heap.size 3 1 (.slice (some ⟨q2, 0, none⟩) n cap2) n s2.T → Rf s2 cd → vb W' b14 31 [.int .i64 0, .int .i64 0, .int .i64 (Wd : Int), .int .i64 (Hd : Int), .slice (some ⟨q2, 0, none⟩) n cap2, .int .i64 s2.cut, .int .i64 s2.air, .int .i64 s2.dep] → Mq b14 b14 V W' → K_ { tmps := #[s0, s1, .int .i64 ((r : Int)), s3, s4, .pointer (some ⟨b5, 0, none⟩), s6, s7, s8, .pointer (some ⟨b9, 0, none⟩), .pointer (some ⟨b10, 0, none⟩), s11, .pointer (some ⟨b12, 0, none⟩), .pointer (some ⟨b13, 0, none⟩), .pointer (some ⟨b14, 0, none⟩), .int .i64 (cd), s16, s17, s18, s19, s20, s21, s22, s23, s24, s25, s26, s27, s28, s29, s30, s31, s32, s33, s34, s35, s36, s37, s38, s39, s40, s41, s42, s43, s44, s45, s46, s47, s48, s49, s50, s51, s52, s53, s54, s55, s56, s57, s58, s59, s60, s61, y62, y63, y64, y65, y66, y67, y68, y69, y70, y71, y72, y73, s74, s75, s76, s77, s78, s79, s80, s81, s82, s83, s84], defers := [] } W') :
    Go.Code.wp Try.prog (reg11 14) (Only K_) { tmps := #[s0, s1, .int .i64 ((r : Int)), s3, s4, .pointer (some ⟨b5, 0, none⟩), s6, s7, s8, .pointer (some ⟨b9, 0, none⟩), .pointer (some ⟨b10, 0, none⟩), s11, .pointer (some ⟨b12, 0, none⟩), .pointer (some ⟨b13, 0, none⟩), .pointer (some ⟨b14, 0, none⟩), s15, s16, s17, s18, s19, s20, s21, s22, s23, s24, s25, s26, s27, s28, s29, s30, s31, s32, s33, s34, s35, s36, s37, s38, s39, s40, s41, s42, s43, s44, s45, s46, s47, s48, s49, s50, s51, s52, s53, s54, s55, s56, s57, s58, s59, s60, s61, s62, s63, s64, s65, s66, s67, s68, s69, s70, s71, s72, s73, s74, s75, s76, s77, s78, s79, s80, s81, s82, s83, s84], defers := [] } V := by
  have HQ := hide hQ
  clear hQ
  conv => arg 2; whnf
  refine wp_region_inv2 (fun Lb A W => ∃ (u0 u1 u2 u3 u4 u5 u6 u7 u8 u9 u10 u11 u12 u13 : Bool) (wv : Nat) (cw : Nat) (q2 : Nat) (cap2 : Nat) (s2 : Ml) (cd : Int), Lb = #[u0, u1, u2, u3, u4, u5, u6, u7, u8, u9, u10, u11, u12, u13] ∧ A = ({ tmps := #[s0, s1, .int .i64 ((r : Int)), s3, s4, .pointer (some ⟨b5, 0, none⟩), s6, s7, s8, .pointer (some ⟨b9, 0, none⟩), .pointer (some ⟨b10, 0, none⟩), s11, .pointer (some ⟨b12, 0, none⟩), .pointer (some ⟨b13, 0, none⟩), .pointer (some ⟨b14, 0, none⟩), (bif u13 then .int .i64 (cd) else s15), s16, s17, s18, s19, s20, s21, s22, s23, s24, s25, s26, s27, s28, s29, s30, s31, s32, s33, s34, s35, s36, s37, s38, s39, s40, s41, s42, s43, s44, s45, s46, s47, s48, s49, s50, s51, s52, s53, s54, s55, s56, s57, s58, s59, s60, s61, (bif u9 then .tuple #[.agg #[.int .i64 0, .int .i64 0, .int .i64 (Wd : Int), .int .i64 (Hd : Int), .slice (some ⟨q2, 0, none⟩) n cap2, .int .i64 s2.cut, .int .i64 s2.air, .int .i64 s2.dep], .int .i64 cd] else s62), (bif u0 then .agg #[.int .i64 0, .int .i64 0, .int .i64 (Wd : Int), .int .i64 (Hd : Int), .slice (some ⟨q, 0, none⟩) n cap, .int .i64 s.cut, .int .i64 s.air, .int .i64 s.dep] else s63), (bif u1 then .agg #[.int .i64 fx, .int .i64 fy, .int .i64 fz] else s64), (bif u2 then .agg #[.int .i64 tx, .int .i64 ty, .int .i64 tz] else s65), (bif u3 then .slice (some ⟨wv, 0, none⟩) N cw else s66), (bif u4 then .agg #[.int .i64 (Wd : Int), .int .i64 (Hd : Int), .slice (some ⟨g, po, none⟩) n c] else s67), (bif u5 then .int .i64 ((r : Int)) else s68), (bif u6 then .pointer (some ⟨b12, 0, none⟩) else s69), (bif u7 then .bool fa else s70), (bif u8 then .tuple #[.agg #[.int .i64 0, .int .i64 0, .int .i64 (Wd : Int), .int .i64 (Hd : Int), .slice (some ⟨q2, 0, none⟩) n cap2, .int .i64 s2.cut, .int .i64 s2.air, .int .i64 s2.dep], .int .i64 cd] else s71), (bif u10 then .agg #[.int .i64 0, .int .i64 0, .int .i64 (Wd : Int), .int .i64 (Hd : Int), .slice (some ⟨q2, 0, none⟩) n cap2, .int .i64 s2.cut, .int .i64 s2.air, .int .i64 s2.dep] else s72), (bif u11 then .int .i64 (cd) else s73), s74, s75, s76, s77, s78, s79, s80, s81, s82, s83, s84], defers := [] } : Act) ∧ (u12 = false → Below V.heap.size V W) ∧ (u3 = true → u12 = false → wv < W.heap.size ∧ IntsAt W wv 0 L) ∧ (u8 = true → Row W V.heap.size 3 1 (.slice (some ⟨q2, 0, none⟩) n cap2) n s2.T ∧ Rf s2 cd) ∧ (u12 = true → vb W b14 31 [.int .i64 0, .int .i64 0, .int .i64 (Wd : Int), .int .i64 (Hd : Int), .slice (some ⟨q2, 0, none⟩) n cap2, .int .i64 s2.cut, .int .i64 s2.air, .int .i64 s2.dep] ∧ Mq b14 b14 V W) ∧ (u3 = true → u1 = true ∧ u2 = true) ∧ (u7 = true → u6 = true) ∧ (u8 = true → u0 = true ∧ u3 = true ∧ u4 = true ∧ u5 = true ∧ u7 = true) ∧ (u9 = true → u8 = true) ∧ (u10 = true → u9 = true) ∧ (u11 = true → u9 = true) ∧ (u12 = true → u10 = true) ∧ (u13 = true → u0 = true ∧ u1 = true ∧ u2 = true ∧ u3 = true ∧ u4 = true ∧ u5 = true ∧ u6 = true ∧ u7 = true ∧ u8 = true ∧ u9 = true ∧ u10 = true ∧ u11 = true ∧ u12 = true)) (by kernel_rfl) (by kernel_rfl) ?h0 ?hstep ?hend
  case h0 =>
    exact ⟨false, false, false, false, false, false, false, false, false, false, false, false, false, false, 0, 0, 0, 0, s, 0, rfl, rfl, (fun _ => Below.drew (Below.refl _ _)), (fun h => nomatch h), (fun h => nomatch h), (fun h => nomatch h), (fun h => nomatch h), (fun h => nomatch h), (fun h => nomatch h), (fun h => nomatch h), (fun h => nomatch h), (fun h => nomatch h), (fun h => nomatch h), (fun h => nomatch h)⟩
  case hstep =>
    rintro Lb A W ⟨u0, u1, u2, u3, u4, u5, u6, u7, u8, u9, u10, u11, u12, u13, wv, cw, q2, cap2, s2, cd, rfl, rfl, kB, kw, kr, kZ, c3, c7, c8, c9, c10, c11, c12, kF⟩
    refine ⟨?_, ?_, ?_, ?_, ?_, ?_, ?_, ?_, ?_, ?_, ?_, ?_, ?_, ?_, trivial⟩
    · intro h0 hd K hK
      have z : u0 = false := h0
      have z13_ : u13 = false := by
        cases hu : u13 with
        | false => rfl
        | true => exact nomatch z.symm.trans ((kF hu).1)
      have z8_ : u8 = false := by
        cases hu : u8 with
        | false => rfl
        | true => exact nomatch z.symm.trans ((c8 hu).1)
      have z12_ : u12 = false := by
        cases hu : u12 with
        | false => rfl
        | true => exact nomatch z.symm.trans ((c8 (c9 (c10 (c12 hu)))).1)
      have H_kB := hide kB
      have H_kw := hide kw
      have H_kr := hide kr
      have H_kZ := hide kZ
      have H_c3 := hide c3
      have H_c7 := hide c7
      have H_c8 := hide c8
      have H_c9 := hide c9
      have H_c10 := hide c10
      have H_c11 := hide c11
      have H_c12 := hide c12
      have H_kF := hide kF
      clear kB kw kr kZ c3 c7 c8 c9 c10 c11 c12 kF
      subst z13_
      subst z8_
      subst z12_
      subst z
      clear h0 hd
      rw [if_pos (by rfl)]
      have v1 := (unhide HD).bel (unhide H_kB rfl)
      have c0 := v1.cell (m := 0) rfl
      have c1 := v1.cell (m := 1) rfl
      have c2 := v1.cell (m := 2) rfl
      have c3 := v1.cell (m := 3) rfl
      have c4 := v1.cell (m := 4) rfl
      have c5 := v1.cell (m := 5) rfl
      have c6 := v1.cell (m := 6) rfl
      have c7 := v1.cell (m := 7) rfl
      clear v1
      go_simp
      exact unhide hK _ _ ⟨true, u1, u2, u3, u4, u5, u6, u7, false, u9, u10, u11, false, false, wv, cw, q2, cap2, s2, cd, rfl, rfl, unhide H_kB, unhide H_kw, unhide H_kr, (fun h => nomatch h), unhide H_c3, unhide H_c7, (fun h => nomatch h), unhide H_c9, unhide H_c10, unhide H_c11, (fun h => nomatch h), (fun h => nomatch h)⟩
    · intro h0 hd K hK
      have z : u1 = false := h0
      have z13_ : u13 = false := by
        cases hu : u13 with
        | false => rfl
        | true => exact nomatch z.symm.trans ((kF hu).2.1)
      have z12_ : u12 = false := by
        cases hu : u12 with
        | false => rfl
        | true => exact nomatch z.symm.trans ((c3 (c8 (c9 (c10 (c12 hu)))).2.1).1)
      have H_kB := hide kB
      have H_kw := hide kw
      have H_kr := hide kr
      have H_kZ := hide kZ
      have H_c3 := hide c3
      have H_c7 := hide c7
      have H_c8 := hide c8
      have H_c9 := hide c9
      have H_c10 := hide c10
      have H_c11 := hide c11
      have H_c12 := hide c12
      have H_kF := hide kF
      clear kB kw kr kZ c3 c7 c8 c9 c10 c11 c12 kF
      subst z13_
      subst z12_
      subst z
      clear h0 hd
      rw [if_pos (by rfl)]
      have v1 := (unhide HF).bel (unhide H_kB rfl)
      have c0 := v1.cell (m := 0) rfl
      have c1 := v1.cell (m := 1) rfl
      have c2 := v1.cell (m := 2) rfl
      clear v1
      go_simp
      exact unhide hK _ _ ⟨u0, true, u2, u3, u4, u5, u6, u7, u8, u9, u10, u11, false, false, wv, cw, q2, cap2, s2, cd, rfl, rfl, unhide H_kB, unhide H_kw, unhide H_kr, (fun h => nomatch h), (fun h => ⟨rfl, (unhide H_c3 h).2⟩), unhide H_c7, unhide H_c8, unhide H_c9, unhide H_c10, unhide H_c11, (fun h => nomatch h), (fun h => nomatch h)⟩
    · intro h0 hd K hK
      have z : u2 = false := h0
      have z13_ : u13 = false := by
        cases hu : u13 with
        | false => rfl
        | true => exact nomatch z.symm.trans ((kF hu).2.2.1)
      have z12_ : u12 = false := by
        cases hu : u12 with
        | false => rfl
        | true => exact nomatch z.symm.trans ((c3 (c8 (c9 (c10 (c12 hu)))).2.1).2)
      have H_kB := hide kB
      have H_kw := hide kw
      have H_kr := hide kr
      have H_kZ := hide kZ
      have H_c3 := hide c3
      have H_c7 := hide c7
      have H_c8 := hide c8
      have H_c9 := hide c9
      have H_c10 := hide c10
      have H_c11 := hide c11
      have H_c12 := hide c12
      have H_kF := hide kF
      clear kB kw kr kZ c3 c7 c8 c9 c10 c11 c12 kF
      subst z13_
      subst z12_
      subst z
      clear h0 hd
      rw [if_pos (by rfl)]
      have v1 := (unhide HT).bel (unhide H_kB rfl)
      have c0 := v1.cell (m := 0) rfl
      have c1 := v1.cell (m := 1) rfl
      have c2 := v1.cell (m := 2) rfl
      clear v1
      go_simp
      exact unhide hK _ _ ⟨u0, u1, true, u3, u4, u5, u6, u7, u8, u9, u10, u11, false, false, wv, cw, q2, cap2, s2, cd, rfl, rfl, unhide H_kB, unhide H_kw, unhide H_kr, (fun h => nomatch h), (fun h => ⟨(unhide H_c3 h).1, rfl⟩), unhide H_c7, unhide H_c8, unhide H_c9, unhide H_c10, unhide H_c11, (fun h => nomatch h), (fun h => nomatch h)⟩
    · intro h0 hd K hK
      have z : u3 = false := h0
      have z13_ : u13 = false := by
        cases hu : u13 with
        | false => rfl
        | true => exact nomatch z.symm.trans ((kF hu).2.2.2.1)
      have z8_ : u8 = false := by
        cases hu : u8 with
        | false => rfl
        | true => exact nomatch z.symm.trans ((c8 hu).2.1)
      have z12_ : u12 = false := by
        cases hu : u12 with
        | false => rfl
        | true => exact nomatch z.symm.trans ((c8 (c9 (c10 (c12 hu)))).2.1)
      have zd : u1 = true ∧ u2 = true := by
        simp [Region.binds] at hd
        simp [hd]
      have H_kB := hide kB
      have H_kw := hide kw
      have H_kr := hide kr
      have H_kZ := hide kZ
      have H_c3 := hide c3
      have H_c7 := hide c7
      have H_c8 := hide c8
      have H_c9 := hide c9
      have H_c10 := hide c10
      have H_c11 := hide c11
      have H_c12 := hide c12
      have H_kF := hide kF
      clear kB kw kr kZ c3 c7 c8 c9 c10 c11 c12 kF
      obtain ⟨rfl, rfl⟩ := zd
      subst z13_
      subst z8_
      subst z12_
      subst z
      clear h0 hd
      rw [if_pos (by rfl)]
      go_simp
      refine (unhide HC44 W (unhide H_kB rfl)).mono ?_
      rintro e w8 ⟨⟨wv', cw', rfl, hv1, hv2⟩, hb8⟩
      exact unhide hK _ _ ⟨u0, true, true, true, u4, u5, u6, u7, false, u9, u10, u11, false, false, wv', cw', q2, cap2, s2, cd, rfl, rfl, (fun _ => bc (unhide H_kB rfl) hb8), (fun _ _ => ⟨hv1, hv2⟩), (fun h => nomatch h), (fun h => nomatch h), (fun _ => ⟨rfl, rfl⟩), unhide H_c7, (fun h => nomatch h), unhide H_c9, unhide H_c10, unhide H_c11, (fun h => nomatch h), (fun h => nomatch h)⟩
    · intro h0 hd K hK
      have z : u4 = false := h0
      have z13_ : u13 = false := by
        cases hu : u13 with
        | false => rfl
        | true => exact nomatch z.symm.trans ((kF hu).2.2.2.2.1)
      have z8_ : u8 = false := by
        cases hu : u8 with
        | false => rfl
        | true => exact nomatch z.symm.trans ((c8 hu).2.2.1)
      have z12_ : u12 = false := by
        cases hu : u12 with
        | false => rfl
        | true => exact nomatch z.symm.trans ((c8 (c9 (c10 (c12 hu)))).2.2.1)
      have H_kB := hide kB
      have H_kw := hide kw
      have H_kr := hide kr
      have H_kZ := hide kZ
      have H_c3 := hide c3
      have H_c7 := hide c7
      have H_c8 := hide c8
      have H_c9 := hide c9
      have H_c10 := hide c10
      have H_c11 := hide c11
      have H_c12 := hide c12
      have H_kF := hide kF
      clear kB kw kr kZ c3 c7 c8 c9 c10 c11 c12 kF
      subst z13_
      subst z8_
      subst z12_
      subst z
      clear h0 hd
      rw [if_pos (by rfl)]
      have v1 := (unhide HP).bel (unhide H_kB rfl)
      have c0 := v1.cell (m := 0) rfl
      have c1 := v1.cell (m := 1) rfl
      have c2 := v1.cell (m := 2) rfl
      clear v1
      go_simp
      exact unhide hK _ _ ⟨u0, u1, u2, u3, true, u5, u6, u7, false, u9, u10, u11, false, false, wv, cw, q2, cap2, s2, cd, rfl, rfl, unhide H_kB, unhide H_kw, unhide H_kr, (fun h => nomatch h), unhide H_c3, unhide H_c7, (fun h => nomatch h), unhide H_c9, unhide H_c10, unhide H_c11, (fun h => nomatch h), (fun h => nomatch h)⟩
    · intro h0 hd K hK
      have z : u5 = false := h0
      have z13_ : u13 = false := by
        cases hu : u13 with
        | false => rfl
        | true => exact nomatch z.symm.trans ((kF hu).2.2.2.2.2.1)
      have z8_ : u8 = false := by
        cases hu : u8 with
        | false => rfl
        | true => exact nomatch z.symm.trans ((c8 hu).2.2.2.1)
      have z12_ : u12 = false := by
        cases hu : u12 with
        | false => rfl
        | true => exact nomatch z.symm.trans ((c8 (c9 (c10 (c12 hu)))).2.2.2.1)
      have H_kB := hide kB
      have H_kw := hide kw
      have H_kr := hide kr
      have H_kZ := hide kZ
      have H_c3 := hide c3
      have H_c7 := hide c7
      have H_c8 := hide c8
      have H_c9 := hide c9
      have H_c10 := hide c10
      have H_c11 := hide c11
      have H_c12 := hide c12
      have H_kF := hide kF
      clear kB kw kr kZ c3 c7 c8 c9 c10 c11 c12 kF
      subst z13_
      subst z8_
      subst z12_
      subst z
      clear h0 hd
      rw [if_pos (by rfl)]
      go_simp
      exact unhide hK _ _ ⟨u0, u1, u2, u3, u4, true, u6, u7, false, u9, u10, u11, false, false, wv, cw, q2, cap2, s2, cd, rfl, rfl, unhide H_kB, unhide H_kw, unhide H_kr, (fun h => nomatch h), unhide H_c3, unhide H_c7, (fun h => nomatch h), unhide H_c9, unhide H_c10, unhide H_c11, (fun h => nomatch h), (fun h => nomatch h)⟩
    · intro h0 hd K hK
      have z : u6 = false := h0
      have z13_ : u13 = false := by
        cases hu : u13 with
        | false => rfl
        | true => exact nomatch z.symm.trans ((kF hu).2.2.2.2.2.2.1)
      have z12_ : u12 = false := by
        cases hu : u12 with
        | false => rfl
        | true => exact nomatch z.symm.trans ((c7 (c8 (c9 (c10 (c12 hu)))).2.2.2.2))
      have H_kB := hide kB
      have H_kw := hide kw
      have H_kr := hide kr
      have H_kZ := hide kZ
      have H_c3 := hide c3
      have H_c7 := hide c7
      have H_c8 := hide c8
      have H_c9 := hide c9
      have H_c10 := hide c10
      have H_c11 := hide c11
      have H_c12 := hide c12
      have H_kF := hide kF
      clear kB kw kr kZ c3 c7 c8 c9 c10 c11 c12 kF
      subst z13_
      subst z12_
      subst z
      clear h0 hd
      rw [if_pos (by rfl)]
      go_simp
      exact unhide hK _ _ ⟨u0, u1, u2, u3, u4, u5, true, u7, u8, u9, u10, u11, false, false, wv, cw, q2, cap2, s2, cd, rfl, rfl, unhide H_kB, unhide H_kw, unhide H_kr, (fun h => nomatch h), unhide H_c3, (fun h => rfl), unhide H_c8, unhide H_c9, unhide H_c10, unhide H_c11, (fun h => nomatch h), (fun h => nomatch h)⟩
    · intro h0 hd K hK
      have z : u7 = false := h0
      have z13_ : u13 = false := by
        cases hu : u13 with
        | false => rfl
        | true => exact nomatch z.symm.trans ((kF hu).2.2.2.2.2.2.2.1)
      have z8_ : u8 = false := by
        cases hu : u8 with
        | false => rfl
        | true => exact nomatch z.symm.trans ((c8 hu).2.2.2.2)
      have z12_ : u12 = false := by
        cases hu : u12 with
        | false => rfl
        | true => exact nomatch z.symm.trans ((c8 (c9 (c10 (c12 hu)))).2.2.2.2)
      have zd : u6 = true := by
        simp [Region.binds] at hd
        simp [hd]
      have H_kB := hide kB
      have H_kw := hide kw
      have H_kr := hide kr
      have H_kZ := hide kZ
      have H_c3 := hide c3
      have H_c7 := hide c7
      have H_c8 := hide c8
      have H_c9 := hide c9
      have H_c10 := hide c10
      have H_c11 := hide c11
      have H_c12 := hide c12
      have H_kF := hide kF
      clear kB kw kr kZ c3 c7 c8 c9 c10 c11 c12 kF
      obtain ⟨rfl⟩ := zd
      subst z13_
      subst z8_
      subst z12_
      subst z
      clear h0 hd
      rw [if_pos (by rfl)]
      have c0 := keep1 (unhide H_kB rfl) (unhide HM)
      go_simp
      exact unhide hK _ _ ⟨u0, u1, u2, u3, u4, u5, true, true, false, u9, u10, u11, false, false, wv, cw, q2, cap2, s2, cd, rfl, rfl, unhide H_kB, unhide H_kw, unhide H_kr, (fun h => nomatch h), unhide H_c3, (fun _ => rfl), (fun h => nomatch h), unhide H_c9, unhide H_c10, unhide H_c11, (fun h => nomatch h), (fun h => nomatch h)⟩
    · intro h0 hd K hK
      have z : u8 = false := h0
      have z13_ : u13 = false := by
        cases hu : u13 with
        | false => rfl
        | true => exact nomatch z.symm.trans ((kF hu).2.2.2.2.2.2.2.2.1)
      have z9_ : u9 = false := by
        cases hu : u9 with
        | false => rfl
        | true => exact nomatch z.symm.trans ((c9 hu))
      have z10_ : u10 = false := by
        cases hu : u10 with
        | false => rfl
        | true => exact nomatch z.symm.trans ((c9 (c10 hu)))
      have z11_ : u11 = false := by
        cases hu : u11 with
        | false => rfl
        | true => exact nomatch z.symm.trans ((c9 (c11 hu)))
      have z12_ : u12 = false := by
        cases hu : u12 with
        | false => rfl
        | true => exact nomatch z.symm.trans ((c9 (c10 (c12 hu))))
      have zd : u0 = true ∧ u3 = true ∧ u4 = true ∧ u5 = true ∧ u7 = true := by
        simp [Region.binds] at hd
        simp [hd]
      have H_kB := hide kB
      have H_kw := hide kw
      have H_kr := hide kr
      have H_kZ := hide kZ
      have H_c3 := hide c3
      have H_c7 := hide c7
      have H_c8 := hide c8
      have H_c9 := hide c9
      have H_c10 := hide c10
      have H_c11 := hide c11
      have H_c12 := hide c12
      have H_kF := hide kF
      clear kB kw kr kZ c3 c7 c8 c9 c10 c11 c12 kF
      obtain ⟨rfl, rfl, rfl, rfl, rfl⟩ := zd
      subst z13_
      subst z9_
      subst z10_
      subst z11_
      subst z12_
      subst z
      clear h0 hd
      rw [if_pos (by rfl)]
      go_simp
      refine (unhide HC43 wv cw W (unhide H_kB rfl) (unhide H_kw rfl rfl).1 (unhide H_kw rfl rfl).2).mono ?_
      rintro e w8 ⟨⟨q', cap', s', cd', rfl, hro, hrf⟩, hb8⟩
      exact unhide hK _ _ ⟨true, u1, u2, true, true, true, u6, true, true, false, false, false, false, false, wv, cw, q', cap', s', cd', rfl, rfl, (fun _ => bc (unhide H_kB rfl) hb8), (fun _ _ => ⟨Nat.lt_of_lt_of_le (unhide H_kw rfl rfl).1 hb8.size, (unhide H_kw rfl rfl).2.below hb8 (unhide H_kw rfl rfl).1⟩), (fun _ => ⟨hro.mono (unhide H_kB rfl).size, hrf⟩), (fun h => nomatch h), unhide H_c3, unhide H_c7, (fun _ => ⟨rfl, rfl, rfl, rfl, rfl⟩), (fun h => nomatch h), (fun h => nomatch h), (fun h => nomatch h), (fun h => nomatch h), (fun h => nomatch h)⟩
    · intro h0 hd K hK
      have z : u9 = false := h0
      have z13_ : u13 = false := by
        cases hu : u13 with
        | false => rfl
        | true => exact nomatch z.symm.trans ((kF hu).2.2.2.2.2.2.2.2.2.1)
      have z12_ : u12 = false := by
        cases hu : u12 with
        | false => rfl
        | true => exact nomatch z.symm.trans ((c10 (c12 hu)))
      have zd : u8 = true := by
        simp [Region.binds] at hd
        simp [hd]
      have H_kB := hide kB
      have H_kw := hide kw
      have H_kr := hide kr
      have H_kZ := hide kZ
      have H_c3 := hide c3
      have H_c7 := hide c7
      have H_c8 := hide c8
      have H_c9 := hide c9
      have H_c10 := hide c10
      have H_c11 := hide c11
      have H_c12 := hide c12
      have H_kF := hide kF
      clear kB kw kr kZ c3 c7 c8 c9 c10 c11 c12 kF
      obtain ⟨rfl⟩ := zd
      subst z13_
      subst z12_
      subst z
      clear h0 hd
      rw [if_pos (by rfl)]
      go_simp
      exact unhide hK _ _ ⟨u0, u1, u2, u3, u4, u5, u6, u7, true, true, u10, u11, false, false, wv, cw, q2, cap2, s2, cd, rfl, rfl, unhide H_kB, unhide H_kw, unhide H_kr, (fun h => nomatch h), unhide H_c3, unhide H_c7, unhide H_c8, (fun _ => rfl), (fun h => rfl), (fun h => rfl), (fun h => nomatch h), (fun h => nomatch h)⟩
    · intro h0 hd K hK
      have z : u10 = false := h0
      have z13_ : u13 = false := by
        cases hu : u13 with
        | false => rfl
        | true => exact nomatch z.symm.trans ((kF hu).2.2.2.2.2.2.2.2.2.2.1)
      have z12_ : u12 = false := by
        cases hu : u12 with
        | false => rfl
        | true => exact nomatch z.symm.trans ((c12 hu))
      have zd : u9 = true := by
        simp [Region.binds] at hd
        simp [hd]
      have H_kB := hide kB
      have H_kw := hide kw
      have H_kr := hide kr
      have H_kZ := hide kZ
      have H_c3 := hide c3
      have H_c7 := hide c7
      have H_c8 := hide c8
      have H_c9 := hide c9
      have H_c10 := hide c10
      have H_c11 := hide c11
      have H_c12 := hide c12
      have H_kF := hide kF
      clear kB kw kr kZ c3 c7 c8 c9 c10 c11 c12 kF
      obtain ⟨rfl⟩ := zd
      subst z13_
      subst z12_
      subst z
      clear h0 hd
      rw [if_pos (by rfl)]
      go_simp
      exact unhide hK _ _ ⟨u0, u1, u2, u3, u4, u5, u6, u7, u8, true, true, u11, false, false, wv, cw, q2, cap2, s2, cd, rfl, rfl, unhide H_kB, unhide H_kw, unhide H_kr, (fun h => nomatch h), unhide H_c3, unhide H_c7, unhide H_c8, unhide H_c9, (fun _ => rfl), (fun h => rfl), (fun h => nomatch h), (fun h => nomatch h)⟩
    · intro h0 hd K hK
      have z : u11 = false := h0
      have z13_ : u13 = false := by
        cases hu : u13 with
        | false => rfl
        | true => exact nomatch z.symm.trans ((kF hu).2.2.2.2.2.2.2.2.2.2.2.1)
      have zd : u9 = true := by
        simp [Region.binds] at hd
        simp [hd]
      have H_kB := hide kB
      have H_kw := hide kw
      have H_kr := hide kr
      have H_kZ := hide kZ
      have H_c3 := hide c3
      have H_c7 := hide c7
      have H_c8 := hide c8
      have H_c9 := hide c9
      have H_c10 := hide c10
      have H_c11 := hide c11
      have H_c12 := hide c12
      have H_kF := hide kF
      clear kB kw kr kZ c3 c7 c8 c9 c10 c11 c12 kF
      obtain ⟨rfl⟩ := zd
      subst z13_
      subst z
      clear h0 hd
      rw [if_pos (by rfl)]
      go_simp
      exact unhide hK _ _ ⟨u0, u1, u2, u3, u4, u5, u6, u7, u8, true, u10, true, u12, false, wv, cw, q2, cap2, s2, cd, rfl, rfl, unhide H_kB, unhide H_kw, unhide H_kr, unhide H_kZ, unhide H_c3, unhide H_c7, unhide H_c8, unhide H_c9, (fun h => rfl), (fun _ => rfl), unhide H_c12, (fun h => nomatch h)⟩
    · intro h0 hd K hK
      have z : u12 = false := h0
      have z13_ : u13 = false := by
        cases hu : u13 with
        | false => rfl
        | true => exact nomatch z.symm.trans ((kF hu).2.2.2.2.2.2.2.2.2.2.2.2)
      have zd : u10 = true := by
        simp [Region.binds] at hd
        simp [hd]
      have H_kB := hide kB
      have H_kw := hide kw
      have H_kr := hide kr
      have H_kZ := hide kZ
      have H_c3 := hide c3
      have H_c7 := hide c7
      have H_c8 := hide c8
      have H_c9 := hide c9
      have H_c10 := hide c10
      have H_c11 := hide c11
      have H_c12 := hide c12
      have H_kF := hide kF
      clear kB kw kr kZ c3 c7 c8 c9 c10 c11 c12 kF
      obtain ⟨rfl⟩ := zd
      subst z13_
      subst z
      clear h0 hd
      rw [if_pos (by rfl)]
      have vz := (unhide HZ).bel (unhide H_kB rfl)
      have fz := vz.frozen
      have c0 := vz.cell (m := 0) rfl
      have c1 := vz.cell (m := 1) rfl
      have c2 := vz.cell (m := 2) rfl
      have c3 := vz.cell (m := 3) rfl
      have c4 := vz.cell (m := 4) rfl
      have c5 := vz.cell (m := 5) rfl
      have c6 := vz.cell (m := 6) rfl
      have c7 := vz.cell (m := 7) rfl
      have HVZ := hide vz
      have hne : q2 ≠ b14 := by have := (unhide H_kr (unhide H_c9 (unhide H_c10 rfl))).1.ge; have := (unhide HZ).lt; omega
      clear vz
      go_simp
      exact unhide hK _ _ ⟨u0, u1, u2, u3, u4, u5, u6, u7, u8, u9, true, u11, true, false, wv, cw, q2, cap2, s2, cd, rfl, rfl, (fun h => nomatch h), (fun _ h => nomatch h), (fun h => ⟨(unhide H_kr h).1.kept' (fun y hy => by simp only [Value.ownBlock, Option.some.injEq] at hy; subst hy; exact (Below.heap_setCell _ _ _ _ hne).trans ( (Below.heap_setCell _ _ _ _ hne).trans ( (Below.heap_setCell _ _ _ _ hne).trans ( (Below.heap_setCell _ _ _ _ hne).trans ( (Below.heap_setCell _ _ _ _ hne).trans ( (Below.heap_setCell _ _ _ _ hne).trans ( (Below.heap_setCell _ _ _ _ hne).trans (Below.heap_setCell _ _ _ _ hne)))))))), (unhide H_kr h).2⟩), (fun _ => ⟨((((((((unhide HVZ).set 0 _).set 1 _).set 2 _).set 3 _).set 4 _).set 5 _).set 6 _).set 7 _, Mq.setA (Mq.setA (Mq.setA (Mq.setA (Mq.setA (Mq.setA (Mq.setA (Mq.setA (Mq.of_bel (unhide H_kB rfl)) _ _) _ _) _ _) _ _) _ _) _ _) _ _) _ _⟩), unhide H_c3, unhide H_c7, unhide H_c8, unhide H_c9, unhide H_c10, unhide H_c11, (fun _ => rfl), (fun h => nomatch h)⟩
    · intro h0 hd K hK
      have z : u13 = false := h0
      have zd : u11 = true ∧ u0 = true ∧ u1 = true ∧ u2 = true ∧ u3 = true ∧ u4 = true ∧ u5 = true ∧ u6 = true ∧ u7 = true ∧ u8 = true ∧ u9 = true ∧ u10 = true ∧ u12 = true := by
        simp [Region.binds] at hd
        simp_all
      have H_kB := hide kB
      have H_kw := hide kw
      have H_kr := hide kr
      have H_kZ := hide kZ
      have H_c3 := hide c3
      have H_c7 := hide c7
      have H_c8 := hide c8
      have H_c9 := hide c9
      have H_c10 := hide c10
      have H_c11 := hide c11
      have H_c12 := hide c12
      have H_kF := hide kF
      clear kB kw kr kZ c3 c7 c8 c9 c10 c11 c12 kF
      obtain ⟨rfl, rfl, rfl, rfl, rfl, rfl, rfl, rfl, rfl, rfl, rfl, rfl, rfl⟩ := zd
      subst z
      clear h0 hd
      rw [if_pos (by rfl)]
      go_simp
      exact unhide hK _ _ ⟨true, true, true, true, true, true, true, true, true, true, true, true, true, true, wv, cw, q2, cap2, s2, cd, rfl, rfl, unhide H_kB, unhide H_kw, unhide H_kr, unhide H_kZ, (fun _ => ⟨rfl, rfl⟩), (fun _ => rfl), (fun _ => ⟨rfl, rfl, rfl, rfl, rfl⟩), (fun _ => rfl), (fun _ => rfl), (fun _ => rfl), (fun _ => rfl), (fun _ => ⟨rfl, rfl, rfl, rfl, rfl, rfl, rfl, rfl, rfl, rfl, rfl, rfl, rfl⟩)⟩
  case hend =>
    rintro Lb A W ⟨u0, u1, u2, u3, u4, u5, u6, u7, u8, u9, u10, u11, u12, u13, wv, cw, q2, cap2, s2, cd, rfl, rfl, kB, kw, kr, kZ, c3, c7, c8, c9, c10, c11, c12, kF⟩ hL
    have hl : u0 = true ∧ u1 = true ∧ u2 = true ∧ u3 = true ∧ u4 = true ∧ u5 = true ∧ u6 = true ∧ u7 = true ∧ u8 = true ∧ u9 = true ∧ u10 = true ∧ u11 = true ∧ u12 = true ∧ u13 = true := by
      have h2 := congrArg Array.toList hL
      simpa [List.replicate] using h2
    obtain ⟨rfl, rfl, rfl, rfl, rfl, rfl, rfl, rfl, rfl, rfl, rfl, rfl, rfl, rfl⟩ := hl
    exact unhide HQ _ _ _ _ _ _ _ _ _ _ _ _ q2 cap2 s2 cd W (kr rfl).1 (kr rfl).2 (kZ rfl).1 (kZ rfl).2

end Go.Proofs.Ytbjljofgpbecbaa
