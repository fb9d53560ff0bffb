/-
  One statement of the program's milling by moves, walked alone: a way is milled. One statement of the program's milling by moves, walked alone: what is left is kept. The program's milling by moves. What the law asks of rows of moves: that two are the same, that one is written over, that it is held. What the model's run of Zigzag has in memory; an append whose block is the old one or a new one. A statement of the model's stand, walked alone: four moves are appended. The model's stand: the tool stands at a place, if it would take something. A statement of the model's Zigzag, walked alone: its run is made. The model's levels. Whether a stock and a part go together: both sides. The model's Zigzag at right arguments. Two points held against one another. The corners of an outline as an iterator. The model's outline of a field that is one, at a height that is one.
-/
import Derived.Test.YtjhldjojkaphkaaFza1
import Derived.Test.YtjhldjojkaphkaaInv2
import Derived.Test.YtjhldjojkaphkaaPlcK
import Derived.Test.YtjhldjojkaphkaaAppNew
import Derived.Test.YtjhldjojkaphkaaLow
import Derived.Test.YtjhldjojkaphkaaInv
import Derived.Lib.MinMax
import Derived.BigRegion
import Derived.Test.YtjhldjojkaphkaaFdRows
import Derived.Test.YtjhldjojkaphkaaVb
import Derived.Test.YtjhldjojkaphkaaTf3
import Derived.Sort.LoopGhostIn
import Derived.Test.YtjhldjojkaphkaaCtM0
import Derived.Deep.LoopGhost
namespace Go.Proofs.Ytjhldjojkaphkaa
open Go.ChangeShapes Go.WideShapes Go.ChangeAt Go.RowKit
set_option linter.unusedVariables false
set_option linter.unusedSimpArgs false

noncomputable def reg12 (id : Nat) : Go.Code := match Try.f12.body with | some c => (regOf id c).getD .skip | none => .skip
set_option maxHeartbeats 4000000 in
set_option maxRecDepth 100000 in
theorem mp14 {s0 s1 s3 s4 s6 s7 s8 s11 s15 s16 s17 s18 s19 s20 s21 s22 s23 s24 s25 s26 s27 s28 s29 s30 s31 s32 s33 s34 s35 s36 s37 s38 s39 s40 s41 s42 s43 s44 s45 s46 s47 s48 s49 s50 s51 s52 s53 s54 s55 s56 s57 s58 s59 s60 s61 s62 s63 s64 s65 s66 s67 s68 s69 s70 s71 s72 s73 s74 s75 s76 s77 s78 s79 s80 s81 s82 s83 s84 : Value} {Wd Hd r g po c n b5 b9 b10 b12 b13 b14 q cap N : Nat} {fx fy fz tx ty tz : Int} {fa : Bool} {s : Ml} {L : List Int} {Rf : Ml → Int → Prop} {V : World} {K_ : Act → World → Prop}
    (HP : Hid (vb V b5 25 [.int .i64 (Wd : Int), .int .i64 (Hd : Int), .slice (some ⟨g, po, none⟩) n c])) (HD : Hid (vb V b9 34 [.int .i64 0, .int .i64 0, .int .i64 (Wd : Int), .int .i64 (Hd : Int), .slice (some ⟨q, 0, none⟩) n cap, .int .i64 s.cut, .int .i64 s.air, .int .i64 s.dep])) (HF : Hid (vb V b10 73 [.int .i64 fx, .int .i64 fy, .int .i64 fz])) (HT : Hid (vb V b13 73 [.int .i64 tx, .int .i64 ty, .int .i64 tz])) (HM : Hid (V.cell? ⟨b12, 0, none⟩ = some (.bool fa))) (HZ : Hid (vb V b14 34 [.int .i64 0, .int .i64 0, .int .i64 0, .int .i64 0, .slice none 0 0, .int .i64 0, .int .i64 0, .int .i64 0]))
    (HC44 : Hid (∀ X, Below V.heap.size V X → Calls Try.prog 47 #[.agg #[.int .i64 fx, .int .i64 fy, .int .i64 fz], .agg #[.int .i64 tx, .int .i64 ty, .int .i64 tz]] X fun e w' => (∃ wv cw, e = .returned (.slice (some ⟨wv, 0, none⟩) N cw) ∧ wv < w'.heap.size ∧ IntsAt w' wv 0 L) ∧ Below X.heap.size X w'))
    (HC43 : Hid (∀ wv cw X, Below V.heap.size V X → wv < X.heap.size → IntsAt X wv 0 L → Calls Try.prog 46 #[.agg #[.int .i64 0, .int .i64 0, .int .i64 (Wd : Int), .int .i64 (Hd : Int), .slice (some ⟨q, 0, none⟩) n cap, .int .i64 s.cut, .int .i64 s.air, .int .i64 s.dep], .slice (some ⟨wv, 0, none⟩) N cw, .agg #[.int .i64 (Wd : Int), .int .i64 (Hd : Int), .slice (some ⟨g, po, none⟩) n c], .int .i64 (r : Int), .bool fa] X fun x w' => (∃ q2 cap2 s2 cd, x = .returned (.tuple #[.agg #[.int .i64 0, .int .i64 0, .int .i64 (Wd : Int), .int .i64 (Hd : Int), .slice (some ⟨q2, 0, none⟩) n cap2, .int .i64 s2.cut, .int .i64 s2.air, .int .i64 s2.dep], .int .i64 cd]) ∧ Row w' X.heap.size 3 1 (.slice (some ⟨q2, 0, none⟩) n cap2) n s2.T ∧ Rf s2 cd) ∧ Below X.heap.size X w'))
    (hQ : ∀ (y63 y64 y65 y66 y67 y68 y69 y70 y71 y62 y72 y73 : Value) (q2 cap2 : Nat) (s2 : Ml) (cd : Int) (W' : World), Row W' V.heap.size 3 1 (.slice (some ⟨q2, 0, none⟩) n cap2) n s2.T → Rf s2 cd → vb W' b14 34 [.int .i64 0, .int .i64 0, .int .i64 (Wd : Int), .int .i64 (Hd : Int), .slice (some ⟨q2, 0, none⟩) n cap2, .int .i64 s2.cut, .int .i64 s2.air, .int .i64 s2.dep] → Mq b14 b14 V W' → K_ { tmps := #[s0, s1, .int .i64 ((r : Int)), s3, s4, .pointer (some ⟨b5, 0, none⟩), s6, s7, s8, .pointer (some ⟨b9, 0, none⟩), .pointer (some ⟨b10, 0, none⟩), s11, .pointer (some ⟨b12, 0, none⟩), .pointer (some ⟨b13, 0, none⟩), .pointer (some ⟨b14, 0, none⟩), .int .i64 (cd), s16, s17, s18, s19, s20, s21, s22, s23, s24, s25, s26, s27, s28, s29, s30, s31, s32, s33, s34, s35, s36, s37, s38, s39, s40, s41, s42, s43, s44, s45, s46, s47, s48, s49, s50, s51, s52, s53, s54, s55, s56, s57, s58, s59, s60, s61, y62, y63, y64, y65, y66, y67, y68, y69, y70, y71, y72, y73, s74, s75, s76, s77, s78, s79, s80, s81, s82, s83, s84], defers := [] } W') :
    Go.Code.wp Try.prog (reg12 14) (Only K_) { tmps := #[s0, s1, .int .i64 ((r : Int)), s3, s4, .pointer (some ⟨b5, 0, none⟩), s6, s7, s8, .pointer (some ⟨b9, 0, none⟩), .pointer (some ⟨b10, 0, none⟩), s11, .pointer (some ⟨b12, 0, none⟩), .pointer (some ⟨b13, 0, none⟩), .pointer (some ⟨b14, 0, none⟩), s15, s16, s17, s18, s19, s20, s21, s22, s23, s24, s25, s26, s27, s28, s29, s30, s31, s32, s33, s34, s35, s36, s37, s38, s39, s40, s41, s42, s43, s44, s45, s46, s47, s48, s49, s50, s51, s52, s53, s54, s55, s56, s57, s58, s59, s60, s61, s62, s63, s64, s65, s66, s67, s68, s69, s70, s71, s72, s73, s74, s75, s76, s77, s78, s79, s80, s81, s82, s83, s84], defers := [] } V := by
  have HQ := hide hQ
  clear hQ
  conv => arg 2; whnf
  refine wp_region_inv2 (fun Lb A W => ∃ (u0 u1 u2 u3 u4 u5 u6 u7 u8 u9 u10 u11 u12 u13 : Bool) (wv : Nat) (cw : Nat) (q2 : Nat) (cap2 : Nat) (s2 : Ml) (cd : Int), Lb = #[u0, u1, u2, u3, u4, u5, u6, u7, u8, u9, u10, u11, u12, u13] ∧ A = ({ tmps := #[s0, s1, .int .i64 ((r : Int)), s3, s4, .pointer (some ⟨b5, 0, none⟩), s6, s7, s8, .pointer (some ⟨b9, 0, none⟩), .pointer (some ⟨b10, 0, none⟩), s11, .pointer (some ⟨b12, 0, none⟩), .pointer (some ⟨b13, 0, none⟩), .pointer (some ⟨b14, 0, none⟩), (bif u13 then .int .i64 (cd) else s15), s16, s17, s18, s19, s20, s21, s22, s23, s24, s25, s26, s27, s28, s29, s30, s31, s32, s33, s34, s35, s36, s37, s38, s39, s40, s41, s42, s43, s44, s45, s46, s47, s48, s49, s50, s51, s52, s53, s54, s55, s56, s57, s58, s59, s60, s61, (bif u9 then .tuple #[.agg #[.int .i64 0, .int .i64 0, .int .i64 (Wd : Int), .int .i64 (Hd : Int), .slice (some ⟨q2, 0, none⟩) n cap2, .int .i64 s2.cut, .int .i64 s2.air, .int .i64 s2.dep], .int .i64 cd] else s62), (bif u0 then .agg #[.int .i64 0, .int .i64 0, .int .i64 (Wd : Int), .int .i64 (Hd : Int), .slice (some ⟨q, 0, none⟩) n cap, .int .i64 s.cut, .int .i64 s.air, .int .i64 s.dep] else s63), (bif u1 then .agg #[.int .i64 fx, .int .i64 fy, .int .i64 fz] else s64), (bif u2 then .agg #[.int .i64 tx, .int .i64 ty, .int .i64 tz] else s65), (bif u3 then .slice (some ⟨wv, 0, none⟩) N cw else s66), (bif u4 then .agg #[.int .i64 (Wd : Int), .int .i64 (Hd : Int), .slice (some ⟨g, po, none⟩) n c] else s67), (bif u5 then .int .i64 ((r : Int)) else s68), (bif u6 then .pointer (some ⟨b12, 0, none⟩) else s69), (bif u7 then .bool fa else s70), (bif u8 then .tuple #[.agg #[.int .i64 0, .int .i64 0, .int .i64 (Wd : Int), .int .i64 (Hd : Int), .slice (some ⟨q2, 0, none⟩) n cap2, .int .i64 s2.cut, .int .i64 s2.air, .int .i64 s2.dep], .int .i64 cd] else s71), (bif u10 then .agg #[.int .i64 0, .int .i64 0, .int .i64 (Wd : Int), .int .i64 (Hd : Int), .slice (some ⟨q2, 0, none⟩) n cap2, .int .i64 s2.cut, .int .i64 s2.air, .int .i64 s2.dep] else s72), (bif u11 then .int .i64 (cd) else s73), s74, s75, s76, s77, s78, s79, s80, s81, s82, s83, s84], defers := [] } : Act) ∧ (u12 = false → Below V.heap.size V W) ∧ (u3 = true → u12 = false → wv < W.heap.size ∧ IntsAt W wv 0 L) ∧ (u8 = true → Row W V.heap.size 3 1 (.slice (some ⟨q2, 0, none⟩) n cap2) n s2.T ∧ Rf s2 cd) ∧ (u12 = true → vb W b14 34 [.int .i64 0, .int .i64 0, .int .i64 (Wd : Int), .int .i64 (Hd : Int), .slice (some ⟨q2, 0, none⟩) n cap2, .int .i64 s2.cut, .int .i64 s2.air, .int .i64 s2.dep] ∧ Mq b14 b14 V W) ∧ (u3 = true → u1 = true ∧ u2 = true) ∧ (u7 = true → u6 = true) ∧ (u8 = true → u0 = true ∧ u3 = true ∧ u4 = true ∧ u5 = true ∧ u7 = true) ∧ (u9 = true → u8 = true) ∧ (u10 = true → u9 = true) ∧ (u11 = true → u9 = true) ∧ (u12 = true → u10 = true) ∧ (u13 = true → u0 = true ∧ u1 = true ∧ u2 = true ∧ u3 = true ∧ u4 = true ∧ u5 = true ∧ u6 = true ∧ u7 = true ∧ u8 = true ∧ u9 = true ∧ u10 = true ∧ u11 = true ∧ u12 = true)) (by kernel_rfl) (by kernel_rfl) ?h0 ?hstep ?hend
  case h0 =>
    exact ⟨false, false, false, false, false, false, false, false, false, false, false, false, false, false, 0, 0, 0, 0, s, 0, rfl, rfl, (fun _ => Below.drew (Below.refl _ _)), (fun h => nomatch h), (fun h => nomatch h), (fun h => nomatch h), (fun h => nomatch h), (fun h => nomatch h), (fun h => nomatch h), (fun h => nomatch h), (fun h => nomatch h), (fun h => nomatch h), (fun h => nomatch h), (fun h => nomatch h)⟩
  case hstep =>
    rintro Lb A W ⟨u0, u1, u2, u3, u4, u5, u6, u7, u8, u9, u10, u11, u12, u13, wv, cw, q2, cap2, s2, cd, rfl, rfl, kB, kw, kr, kZ, c3, c7, c8, c9, c10, c11, c12, kF⟩
    refine ⟨?_, ?_, ?_, ?_, ?_, ?_, ?_, ?_, ?_, ?_, ?_, ?_, ?_, ?_, trivial⟩
    · intro h0 hd K hK
      have z : u0 = false := h0
      have z13_ : u13 = false := by
        cases hu : u13 with
        | false => rfl
        | true => exact nomatch z.symm.trans ((kF hu).1)
      have z8_ : u8 = false := by
        cases hu : u8 with
        | false => rfl
        | true => exact nomatch z.symm.trans ((c8 hu).1)
      have z12_ : u12 = false := by
        cases hu : u12 with
        | false => rfl
        | true => exact nomatch z.symm.trans ((c8 (c9 (c10 (c12 hu)))).1)
      have H_kB := hide kB
      have H_kw := hide kw
      have H_kr := hide kr
      have H_kZ := hide kZ
      have H_c3 := hide c3
      have H_c7 := hide c7
      have H_c8 := hide c8
      have H_c9 := hide c9
      have H_c10 := hide c10
      have H_c11 := hide c11
      have H_c12 := hide c12
      have H_kF := hide kF
      clear kB kw kr kZ c3 c7 c8 c9 c10 c11 c12 kF
      subst z13_
      subst z8_
      subst z12_
      subst z
      clear h0 hd
      rw [if_pos (by rfl)]
      have v1 := (unhide HD).bel (unhide H_kB rfl)
      have c0 := v1.cell (m := 0) rfl
      have c1 := v1.cell (m := 1) rfl
      have c2 := v1.cell (m := 2) rfl
      have c3 := v1.cell (m := 3) rfl
      have c4 := v1.cell (m := 4) rfl
      have c5 := v1.cell (m := 5) rfl
      have c6 := v1.cell (m := 6) rfl
      have c7 := v1.cell (m := 7) rfl
      clear v1
      go_simp
      exact unhide hK _ _ ⟨true, u1, u2, u3, u4, u5, u6, u7, false, u9, u10, u11, false, false, wv, cw, q2, cap2, s2, cd, rfl, rfl, unhide H_kB, unhide H_kw, unhide H_kr, (fun h => nomatch h), unhide H_c3, unhide H_c7, (fun h => nomatch h), unhide H_c9, unhide H_c10, unhide H_c11, (fun h => nomatch h), (fun h => nomatch h)⟩
    · intro h0 hd K hK
      have z : u1 = false := h0
      have z13_ : u13 = false := by
        cases hu : u13 with
        | false => rfl
        | true => exact nomatch z.symm.trans ((kF hu).2.1)
      have z12_ : u12 = false := by
        cases hu : u12 with
        | false => rfl
        | true => exact nomatch z.symm.trans ((c3 (c8 (c9 (c10 (c12 hu)))).2.1).1)
      have H_kB := hide kB
      have H_kw := hide kw
      have H_kr := hide kr
      have H_kZ := hide kZ
      have H_c3 := hide c3
      have H_c7 := hide c7
      have H_c8 := hide c8
      have H_c9 := hide c9
      have H_c10 := hide c10
      have H_c11 := hide c11
      have H_c12 := hide c12
      have H_kF := hide kF
      clear kB kw kr kZ c3 c7 c8 c9 c10 c11 c12 kF
      subst z13_
      subst z12_
      subst z
      clear h0 hd
      rw [if_pos (by rfl)]
      have v1 := (unhide HF).bel (unhide H_kB rfl)
      have c0 := v1.cell (m := 0) rfl
      have c1 := v1.cell (m := 1) rfl
      have c2 := v1.cell (m := 2) rfl
      clear v1
      go_simp
      exact unhide hK _ _ ⟨u0, true, u2, u3, u4, u5, u6, u7, u8, u9, u10, u11, false, false, wv, cw, q2, cap2, s2, cd, rfl, rfl, unhide H_kB, unhide H_kw, unhide H_kr, (fun h => nomatch h), (fun h => ⟨rfl, (unhide H_c3 h).2⟩), unhide H_c7, unhide H_c8, unhide H_c9, unhide H_c10, unhide H_c11, (fun h => nomatch h), (fun h => nomatch h)⟩
    · intro h0 hd K hK
      have z : u2 = false := h0
      have z13_ : u13 = false := by
        cases hu : u13 with
        | false => rfl
        | true => exact nomatch z.symm.trans ((kF hu).2.2.1)
      have z12_ : u12 = false := by
        cases hu : u12 with
        | false => rfl
        | true => exact nomatch z.symm.trans ((c3 (c8 (c9 (c10 (c12 hu)))).2.1).2)
      have H_kB := hide kB
      have H_kw := hide kw
      have H_kr := hide kr
      have H_kZ := hide kZ
      have H_c3 := hide c3
      have H_c7 := hide c7
      have H_c8 := hide c8
      have H_c9 := hide c9
      have H_c10 := hide c10
      have H_c11 := hide c11
      have H_c12 := hide c12
      have H_kF := hide kF
      clear kB kw kr kZ c3 c7 c8 c9 c10 c11 c12 kF
      subst z13_
      subst z12_
      subst z
      clear h0 hd
      rw [if_pos (by rfl)]
      have v1 := (unhide HT).bel (unhide H_kB rfl)
      have c0 := v1.cell (m := 0) rfl
      have c1 := v1.cell (m := 1) rfl
      have c2 := v1.cell (m := 2) rfl
      clear v1
      go_simp
      exact unhide hK _ _ ⟨u0, u1, true, u3, u4, u5, u6, u7, u8, u9, u10, u11, false, false, wv, cw, q2, cap2, s2, cd, rfl, rfl, unhide H_kB, unhide H_kw, unhide H_kr, (fun h => nomatch h), (fun h => ⟨(unhide H_c3 h).1, rfl⟩), unhide H_c7, unhide H_c8, unhide H_c9, unhide H_c10, unhide H_c11, (fun h => nomatch h), (fun h => nomatch h)⟩
    · intro h0 hd K hK
      have z : u3 = false := h0
      have z13_ : u13 = false := by
        cases hu : u13 with
        | false => rfl
        | true => exact nomatch z.symm.trans ((kF hu).2.2.2.1)
      have z8_ : u8 = false := by
        cases hu : u8 with
        | false => rfl
        | true => exact nomatch z.symm.trans ((c8 hu).2.1)
      have z12_ : u12 = false := by
        cases hu : u12 with
        | false => rfl
        | true => exact nomatch z.symm.trans ((c8 (c9 (c10 (c12 hu)))).2.1)
      have zd : u1 = true ∧ u2 = true := by
        simp [Region.binds] at hd
        simp [hd]
      have H_kB := hide kB
      have H_kw := hide kw
      have H_kr := hide kr
      have H_kZ := hide kZ
      have H_c3 := hide c3
      have H_c7 := hide c7
      have H_c8 := hide c8
      have H_c9 := hide c9
      have H_c10 := hide c10
      have H_c11 := hide c11
      have H_c12 := hide c12
      have H_kF := hide kF
      clear kB kw kr kZ c3 c7 c8 c9 c10 c11 c12 kF
      obtain ⟨rfl, rfl⟩ := zd
      subst z13_
      subst z8_
      subst z12_
      subst z
      clear h0 hd
      rw [if_pos (by rfl)]
      go_simp
      refine (unhide HC44 W (unhide H_kB rfl)).mono ?_
      rintro e w8 ⟨⟨wv', cw', rfl, hv1, hv2⟩, hb8⟩
      exact unhide hK _ _ ⟨u0, true, true, true, u4, u5, u6, u7, false, u9, u10, u11, false, false, wv', cw', q2, cap2, s2, cd, rfl, rfl, (fun _ => bc (unhide H_kB rfl) hb8), (fun _ _ => ⟨hv1, hv2⟩), (fun h => nomatch h), (fun h => nomatch h), (fun _ => ⟨rfl, rfl⟩), unhide H_c7, (fun h => nomatch h), unhide H_c9, unhide H_c10, unhide H_c11, (fun h => nomatch h), (fun h => nomatch h)⟩
    · intro h0 hd K hK
      have z : u4 = false := h0
      have z13_ : u13 = false := by
        cases hu : u13 with
        | false => rfl
        | true => exact nomatch z.symm.trans ((kF hu).2.2.2.2.1)
      have z8_ : u8 = false := by
        cases hu : u8 with
        | false => rfl
        | true => exact nomatch z.symm.trans ((c8 hu).2.2.1)
      have z12_ : u12 = false := by
        cases hu : u12 with
        | false => rfl
        | true => exact nomatch z.symm.trans ((c8 (c9 (c10 (c12 hu)))).2.2.1)
      have H_kB := hide kB
      have H_kw := hide kw
      have H_kr := hide kr
      have H_kZ := hide kZ
      have H_c3 := hide c3
      have H_c7 := hide c7
      have H_c8 := hide c8
      have H_c9 := hide c9
      have H_c10 := hide c10
      have H_c11 := hide c11
      have H_c12 := hide c12
      have H_kF := hide kF
      clear kB kw kr kZ c3 c7 c8 c9 c10 c11 c12 kF
      subst z13_
      subst z8_
      subst z12_
      subst z
      clear h0 hd
      rw [if_pos (by rfl)]
      have v1 := (unhide HP).bel (unhide H_kB rfl)
      have c0 := v1.cell (m := 0) rfl
      have c1 := v1.cell (m := 1) rfl
      have c2 := v1.cell (m := 2) rfl
      clear v1
      go_simp
      exact unhide hK _ _ ⟨u0, u1, u2, u3, true, u5, u6, u7, false, u9, u10, u11, false, false, wv, cw, q2, cap2, s2, cd, rfl, rfl, unhide H_kB, unhide H_kw, unhide H_kr, (fun h => nomatch h), unhide H_c3, unhide H_c7, (fun h => nomatch h), unhide H_c9, unhide H_c10, unhide H_c11, (fun h => nomatch h), (fun h => nomatch h)⟩
    · intro h0 hd K hK
      have z : u5 = false := h0
      have z13_ : u13 = false := by
        cases hu : u13 with
        | false => rfl
        | true => exact nomatch z.symm.trans ((kF hu).2.2.2.2.2.1)
      have z8_ : u8 = false := by
        cases hu : u8 with
        | false => rfl
        | true => exact nomatch z.symm.trans ((c8 hu).2.2.2.1)
      have z12_ : u12 = false := by
        cases hu : u12 with
        | false => rfl
        | true => exact nomatch z.symm.trans ((c8 (c9 (c10 (c12 hu)))).2.2.2.1)
      have H_kB := hide kB
      have H_kw := hide kw
      have H_kr := hide kr
      have H_kZ := hide kZ
      have H_c3 := hide c3
      have H_c7 := hide c7
      have H_c8 := hide c8
      have H_c9 := hide c9
      have H_c10 := hide c10
      have H_c11 := hide c11
      have H_c12 := hide c12
      have H_kF := hide kF
      clear kB kw kr kZ c3 c7 c8 c9 c10 c11 c12 kF
      subst z13_
      subst z8_
      subst z12_
      subst z
      clear h0 hd
      rw [if_pos (by rfl)]
      go_simp
      exact unhide hK _ _ ⟨u0, u1, u2, u3, u4, true, u6, u7, false, u9, u10, u11, false, false, wv, cw, q2, cap2, s2, cd, rfl, rfl, unhide H_kB, unhide H_kw, unhide H_kr, (fun h => nomatch h), unhide H_c3, unhide H_c7, (fun h => nomatch h), unhide H_c9, unhide H_c10, unhide H_c11, (fun h => nomatch h), (fun h => nomatch h)⟩
    · intro h0 hd K hK
      have z : u6 = false := h0
      have z13_ : u13 = false := by
        cases hu : u13 with
        | false => rfl
        | true => exact nomatch z.symm.trans ((kF hu).2.2.2.2.2.2.1)
      have z12_ : u12 = false := by
        cases hu : u12 with
        | false => rfl
        | true => exact nomatch z.symm.trans ((c7 (c8 (c9 (c10 (c12 hu)))).2.2.2.2))
      have H_kB := hide kB
      have H_kw := hide kw
      have H_kr := hide kr
      have H_kZ := hide kZ
      have H_c3 := hide c3
      have H_c7 := hide c7
      have H_c8 := hide c8
      have H_c9 := hide c9
      have H_c10 := hide c10
      have H_c11 := hide c11
      have H_c12 := hide c12
      have H_kF := hide kF
      clear kB kw kr kZ c3 c7 c8 c9 c10 c11 c12 kF
      subst z13_
      subst z12_
      subst z
      clear h0 hd
      rw [if_pos (by rfl)]
      go_simp
      exact unhide hK _ _ ⟨u0, u1, u2, u3, u4, u5, true, u7, u8, u9, u10, u11, false, false, wv, cw, q2, cap2, s2, cd, rfl, rfl, unhide H_kB, unhide H_kw, unhide H_kr, (fun h => nomatch h), unhide H_c3, (fun h => rfl), unhide H_c8, unhide H_c9, unhide H_c10, unhide H_c11, (fun h => nomatch h), (fun h => nomatch h)⟩
    · intro h0 hd K hK
      have z : u7 = false := h0
      have z13_ : u13 = false := by
        cases hu : u13 with
        | false => rfl
        | true => exact nomatch z.symm.trans ((kF hu).2.2.2.2.2.2.2.1)
      have z8_ : u8 = false := by
        cases hu : u8 with
        | false => rfl
        | true => exact nomatch z.symm.trans ((c8 hu).2.2.2.2)
      have z12_ : u12 = false := by
        cases hu : u12 with
        | false => rfl
        | true => exact nomatch z.symm.trans ((c8 (c9 (c10 (c12 hu)))).2.2.2.2)
      have zd : u6 = true := by
        simp [Region.binds] at hd
        simp [hd]
      have H_kB := hide kB
      have H_kw := hide kw
      have H_kr := hide kr
      have H_kZ := hide kZ
      have H_c3 := hide c3
      have H_c7 := hide c7
      have H_c8 := hide c8
      have H_c9 := hide c9
      have H_c10 := hide c10
      have H_c11 := hide c11
      have H_c12 := hide c12
      have H_kF := hide kF
      clear kB kw kr kZ c3 c7 c8 c9 c10 c11 c12 kF
      obtain ⟨rfl⟩ := zd
      subst z13_
      subst z8_
      subst z12_
      subst z
      clear h0 hd
      rw [if_pos (by rfl)]
      have c0 := keep1 (unhide H_kB rfl) (unhide HM)
      go_simp
      exact unhide hK _ _ ⟨u0, u1, u2, u3, u4, u5, true, true, false, u9, u10, u11, false, false, wv, cw, q2, cap2, s2, cd, rfl, rfl, unhide H_kB, unhide H_kw, unhide H_kr, (fun h => nomatch h), unhide H_c3, (fun _ => rfl), (fun h => nomatch h), unhide H_c9, unhide H_c10, unhide H_c11, (fun h => nomatch h), (fun h => nomatch h)⟩
    · intro h0 hd K hK
      have z : u8 = false := h0
      have z13_ : u13 = false := by
        cases hu : u13 with
        | false => rfl
        | true => exact nomatch z.symm.trans ((kF hu).2.2.2.2.2.2.2.2.1)
      have z9_ : u9 = false := by
        cases hu : u9 with
        | false => rfl
        | true => exact nomatch z.symm.trans ((c9 hu))
      have z10_ : u10 = false := by
        cases hu : u10 with
        | false => rfl
        | true => exact nomatch z.symm.trans ((c9 (c10 hu)))
      have z11_ : u11 = false := by
        cases hu : u11 with
        | false => rfl
        | true => exact nomatch z.symm.trans ((c9 (c11 hu)))
      have z12_ : u12 = false := by
        cases hu : u12 with
        | false => rfl
        | true => exact nomatch z.symm.trans ((c9 (c10 (c12 hu))))
      have zd : u0 = true ∧ u3 = true ∧ u4 = true ∧ u5 = true ∧ u7 = true := by
        simp [Region.binds] at hd
        simp [hd]
      have H_kB := hide kB
      have H_kw := hide kw
      have H_kr := hide kr
      have H_kZ := hide kZ
      have H_c3 := hide c3
      have H_c7 := hide c7
      have H_c8 := hide c8
      have H_c9 := hide c9
      have H_c10 := hide c10
      have H_c11 := hide c11
      have H_c12 := hide c12
      have H_kF := hide kF
      clear kB kw kr kZ c3 c7 c8 c9 c10 c11 c12 kF
      obtain ⟨rfl, rfl, rfl, rfl, rfl⟩ := zd
      subst z13_
      subst z9_
      subst z10_
      subst z11_
      subst z12_
      subst z
      clear h0 hd
      rw [if_pos (by rfl)]
      go_simp
      refine (unhide HC43 wv cw W (unhide H_kB rfl) (unhide H_kw rfl rfl).1 (unhide H_kw rfl rfl).2).mono ?_
      rintro e w8 ⟨⟨q', cap', s', cd', rfl, hro, hrf⟩, hb8⟩
      exact unhide hK _ _ ⟨true, u1, u2, true, true, true, u6, true, true, false, false, false, false, false, wv, cw, q', cap', s', cd', rfl, rfl, (fun _ => bc (unhide H_kB rfl) hb8), (fun _ _ => ⟨Nat.lt_of_lt_of_le (unhide H_kw rfl rfl).1 hb8.size, (unhide H_kw rfl rfl).2.below hb8 (unhide H_kw rfl rfl).1⟩), (fun _ => ⟨hro.mono (unhide H_kB rfl).size, hrf⟩), (fun h => nomatch h), unhide H_c3, unhide H_c7, (fun _ => ⟨rfl, rfl, rfl, rfl, rfl⟩), (fun h => nomatch h), (fun h => nomatch h), (fun h => nomatch h), (fun h => nomatch h), (fun h => nomatch h)⟩
    · intro h0 hd K hK
      have z : u9 = false := h0
      have z13_ : u13 = false := by
        cases hu : u13 with
        | false => rfl
        | true => exact nomatch z.symm.trans ((kF hu).2.2.2.2.2.2.2.2.2.1)
      have z12_ : u12 = false := by
        cases hu : u12 with
        | false => rfl
        | true => exact nomatch z.symm.trans ((c10 (c12 hu)))
      have zd : u8 = true := by
        simp [Region.binds] at hd
        simp [hd]
      have H_kB := hide kB
      have H_kw := hide kw
      have H_kr := hide kr
      have H_kZ := hide kZ
      have H_c3 := hide c3
      have H_c7 := hide c7
      have H_c8 := hide c8
      have H_c9 := hide c9
      have H_c10 := hide c10
      have H_c11 := hide c11
      have H_c12 := hide c12
      have H_kF := hide kF
      clear kB kw kr kZ c3 c7 c8 c9 c10 c11 c12 kF
      obtain ⟨rfl⟩ := zd
      subst z13_
      subst z12_
      subst z
      clear h0 hd
      rw [if_pos (by rfl)]
      go_simp
      exact unhide hK _ _ ⟨u0, u1, u2, u3, u4, u5, u6, u7, true, true, u10, u11, false, false, wv, cw, q2, cap2, s2, cd, rfl, rfl, unhide H_kB, unhide H_kw, unhide H_kr, (fun h => nomatch h), unhide H_c3, unhide H_c7, unhide H_c8, (fun _ => rfl), (fun h => rfl), (fun h => rfl), (fun h => nomatch h), (fun h => nomatch h)⟩
    · intro h0 hd K hK
      have z : u10 = false := h0
      have z13_ : u13 = false := by
        cases hu : u13 with
        | false => rfl
        | true => exact nomatch z.symm.trans ((kF hu).2.2.2.2.2.2.2.2.2.2.1)
      have z12_ : u12 = false := by
        cases hu : u12 with
        | false => rfl
        | true => exact nomatch z.symm.trans ((c12 hu))
      have zd : u9 = true := by
        simp [Region.binds] at hd
        simp [hd]
      have H_kB := hide kB
      have H_kw := hide kw
      have H_kr := hide kr
      have H_kZ := hide kZ
      have H_c3 := hide c3
      have H_c7 := hide c7
      have H_c8 := hide c8
      have H_c9 := hide c9
      have H_c10 := hide c10
      have H_c11 := hide c11
      have H_c12 := hide c12
      have H_kF := hide kF
      clear kB kw kr kZ c3 c7 c8 c9 c10 c11 c12 kF
      obtain ⟨rfl⟩ := zd
      subst z13_
      subst z12_
      subst z
      clear h0 hd
      rw [if_pos (by rfl)]
      go_simp
      exact unhide hK _ _ ⟨u0, u1, u2, u3, u4, u5, u6, u7, u8, true, true, u11, false, false, wv, cw, q2, cap2, s2, cd, rfl, rfl, unhide H_kB, unhide H_kw, unhide H_kr, (fun h => nomatch h), unhide H_c3, unhide H_c7, unhide H_c8, unhide H_c9, (fun _ => rfl), (fun h => rfl), (fun h => nomatch h), (fun h => nomatch h)⟩
    · intro h0 hd K hK
      have z : u11 = false := h0
      have z13_ : u13 = false := by
        cases hu : u13 with
        | false => rfl
        | true => exact nomatch z.symm.trans ((kF hu).2.2.2.2.2.2.2.2.2.2.2.1)
      have zd : u9 = true := by
        simp [Region.binds] at hd
        simp [hd]
      have H_kB := hide kB
      have H_kw := hide kw
      have H_kr := hide kr
      have H_kZ := hide kZ
      have H_c3 := hide c3
      have H_c7 := hide c7
      have H_c8 := hide c8
      have H_c9 := hide c9
      have H_c10 := hide c10
      have H_c11 := hide c11
      have H_c12 := hide c12
      have H_kF := hide kF
      clear kB kw kr kZ c3 c7 c8 c9 c10 c11 c12 kF
      obtain ⟨rfl⟩ := zd
      subst z13_
      subst z
      clear h0 hd
      rw [if_pos (by rfl)]
      go_simp
      exact unhide hK _ _ ⟨u0, u1, u2, u3, u4, u5, u6, u7, u8, true, u10, true, u12, false, wv, cw, q2, cap2, s2, cd, rfl, rfl, unhide H_kB, unhide H_kw, unhide H_kr, unhide H_kZ, unhide H_c3, unhide H_c7, unhide H_c8, unhide H_c9, (fun h => rfl), (fun _ => rfl), unhide H_c12, (fun h => nomatch h)⟩
    · intro h0 hd K hK
      have z : u12 = false := h0
      have z13_ : u13 = false := by
        cases hu : u13 with
        | false => rfl
        | true => exact nomatch z.symm.trans ((kF hu).2.2.2.2.2.2.2.2.2.2.2.2)
      have zd : u10 = true := by
        simp [Region.binds] at hd
        simp [hd]
      have H_kB := hide kB
      have H_kw := hide kw
      have H_kr := hide kr
      have H_kZ := hide kZ
      have H_c3 := hide c3
      have H_c7 := hide c7
      have H_c8 := hide c8
      have H_c9 := hide c9
      have H_c10 := hide c10
      have H_c11 := hide c11
      have H_c12 := hide c12
      have H_kF := hide kF
      clear kB kw kr kZ c3 c7 c8 c9 c10 c11 c12 kF
      obtain ⟨rfl⟩ := zd
      subst z13_
      subst z
      clear h0 hd
      rw [if_pos (by rfl)]
      have vz := (unhide HZ).bel (unhide H_kB rfl)
      have fz := vz.frozen
      have c0 := vz.cell (m := 0) rfl
      have c1 := vz.cell (m := 1) rfl
      have c2 := vz.cell (m := 2) rfl
      have c3 := vz.cell (m := 3) rfl
      have c4 := vz.cell (m := 4) rfl
      have c5 := vz.cell (m := 5) rfl
      have c6 := vz.cell (m := 6) rfl
      have c7 := vz.cell (m := 7) rfl
      have HVZ := hide vz
      have hne : q2 ≠ b14 := by have := (unhide H_kr (unhide H_c9 (unhide H_c10 rfl))).1.ge; have := (unhide HZ).lt; omega
      clear vz
      go_simp
      exact unhide hK _ _ ⟨u0, u1, u2, u3, u4, u5, u6, u7, u8, u9, true, u11, true, false, wv, cw, q2, cap2, s2, cd, rfl, rfl, (fun h => nomatch h), (fun _ h => nomatch h), (fun h => ⟨(unhide H_kr h).1.kept' (fun y hy => by simp only [Value.ownBlock, Option.some.injEq] at hy; subst hy; exact (Below.heap_setCell _ _ _ _ hne).trans ( (Below.heap_setCell _ _ _ _ hne).trans ( (Below.heap_setCell _ _ _ _ hne).trans ( (Below.heap_setCell _ _ _ _ hne).trans ( (Below.heap_setCell _ _ _ _ hne).trans ( (Below.heap_setCell _ _ _ _ hne).trans ( (Below.heap_setCell _ _ _ _ hne).trans (Below.heap_setCell _ _ _ _ hne)))))))), (unhide H_kr h).2⟩), (fun _ => ⟨((((((((unhide HVZ).set 0 _).set 1 _).set 2 _).set 3 _).set 4 _).set 5 _).set 6 _).set 7 _, Mq.setA (Mq.setA (Mq.setA (Mq.setA (Mq.setA (Mq.setA (Mq.setA (Mq.setA (Mq.of_bel (unhide H_kB rfl)) _ _) _ _) _ _) _ _) _ _) _ _) _ _) _ _⟩), unhide H_c3, unhide H_c7, unhide H_c8, unhide H_c9, unhide H_c10, unhide H_c11, (fun _ => rfl), (fun h => nomatch h)⟩
    · intro h0 hd K hK
      have z : u13 = false := h0
      have zd : u11 = true ∧ u0 = true ∧ u1 = true ∧ u2 = true ∧ u3 = true ∧ u4 = true ∧ u5 = true ∧ u6 = true ∧ u7 = true ∧ u8 = true ∧ u9 = true ∧ u10 = true ∧ u12 = true := by
        simp [Region.binds] at hd
        simp_all
      have H_kB := hide kB
      have H_kw := hide kw
      have H_kr := hide kr
      have H_kZ := hide kZ
      have H_c3 := hide c3
      have H_c7 := hide c7
      have H_c8 := hide c8
      have H_c9 := hide c9
      have H_c10 := hide c10
      have H_c11 := hide c11
      have H_c12 := hide c12
      have H_kF := hide kF
      clear kB kw kr kZ c3 c7 c8 c9 c10 c11 c12 kF
      obtain ⟨rfl, rfl, rfl, rfl, rfl, rfl, rfl, rfl, rfl, rfl, rfl, rfl, rfl⟩ := zd
      subst z
      clear h0 hd
      rw [if_pos (by rfl)]
      go_simp
      exact unhide hK _ _ ⟨true, true, true, true, true, true, true, true, true, true, true, true, true, true, wv, cw, q2, cap2, s2, cd, rfl, rfl, unhide H_kB, unhide H_kw, unhide H_kr, unhide H_kZ, (fun _ => ⟨rfl, rfl⟩), (fun _ => rfl), (fun _ => ⟨rfl, rfl, rfl, rfl, rfl⟩), (fun _ => rfl), (fun _ => rfl), (fun _ => rfl), (fun _ => rfl), (fun _ => ⟨rfl, rfl, rfl, rfl, rfl, rfl, rfl, rfl, rfl, rfl, rfl, rfl, rfl⟩)⟩
  case hend =>
    rintro Lb A W ⟨u0, u1, u2, u3, u4, u5, u6, u7, u8, u9, u10, u11, u12, u13, wv, cw, q2, cap2, s2, cd, rfl, rfl, kB, kw, kr, kZ, c3, c7, c8, c9, c10, c11, c12, kF⟩ hL
    have hl : u0 = true ∧ u1 = true ∧ u2 = true ∧ u3 = true ∧ u4 = true ∧ u5 = true ∧ u6 = true ∧ u7 = true ∧ u8 = true ∧ u9 = true ∧ u10 = true ∧ u11 = true ∧ u12 = true ∧ u13 = true := by
      have h2 := congrArg Array.toList hL
      simpa [List.replicate] using h2
    obtain ⟨rfl, rfl, rfl, rfl, rfl, rfl, rfl, rfl, rfl, rfl, rfl, rfl, rfl, rfl⟩ := hl
    exact unhide HQ _ _ _ _ _ _ _ _ _ _ _ _ q2 cap2 s2 cd W (kr rfl).1 (kr rfl).2 (kZ rfl).1 (kZ rfl).2

end Go.Proofs.Ytjhldjojkaphkaa

namespace Go.Proofs.Ytjhldjojkaphkaa
open Go.ChangeShapes Go.WideShapes Go.ChangeAt Go.RowKit
set_option linter.unusedVariables false
set_option linter.unusedSimpArgs false

noncomputable def reg12b (id : Nat) : Go.Code := match Try.f12.body with | some c => (regOf id c).getD .skip | none => .skip
set_option maxHeartbeats 4000000 in
set_option maxRecDepth 100000 in
theorem mp18 {s0 s1 s2 s3 s4 s5 s6 s7 s8 s11 s12 s15 s16 s17 s18 s19 s20 s21 s22 s23 s24 s25 s26 s27 s28 s29 s30 s31 s32 s33 s34 s35 s36 s37 s38 s39 s40 s41 s42 s43 s44 s45 s46 s47 s48 s49 s50 s51 s52 s53 s54 s55 s56 s57 s58 s59 s60 s61 s62 s63 s64 s65 s66 s67 s68 s69 s70 s71 s72 s73 s74 s75 s76 s77 s78 s79 s80 s81 s82 s83 s84 : Value} {b9 b10 b13 b14 : Nat} {aq acap oq ocap n : Nat} {a0 a1 a2 a3 a5 a6 a7 o0 o1 o2 o3 o5 o6 o7 d0 d1 d2 e0 e1 e2 : Int} {V : World} {K_ : Act → World → Prop}
    (m1 : b14 ≠ b9) (m2 : b14 ≠ b10) (m3 : b13 ≠ b9) (m4 : b13 ≠ b10) (n5 : b9 ≠ b10) (n6 : b10 ≠ b9)
    (HZ : Hid (vb V b14 34 [.int .i64 a0, .int .i64 a1, .int .i64 a2, .int .i64 a3, .slice (some ⟨aq, 0, none⟩) n acap, .int .i64 a5, .int .i64 a6, .int .i64 a7])) (HG : Hid (vb V b13 73 [.int .i64 e0, .int .i64 e1, .int .i64 e2])) (HN : Hid (vb V b9 34 [.int .i64 o0, .int .i64 o1, .int .i64 o2, .int .i64 o3, .slice (some ⟨oq, 0, none⟩) n ocap, .int .i64 o5, .int .i64 o6, .int .i64 o7])) (HT : Hid (vb V b10 73 [.int .i64 d0, .int .i64 d1, .int .i64 d2]))
    (hQ : ∀ (W' : World), vb W' b9 34 [.int .i64 a0, .int .i64 a1, .int .i64 a2, .int .i64 a3, .slice (some ⟨aq, 0, none⟩) n acap, .int .i64 a5, .int .i64 a6, .int .i64 a7] → vb W' b10 73 [.int .i64 e0, .int .i64 e1, .int .i64 e2] → Mq b9 b10 V W' → K_ { tmps := #[s0, s1, s2, s3, s4, s5, s6, s7, s8, .pointer (some ⟨b9, 0, none⟩), .pointer (some ⟨b10, 0, none⟩), s11, s12, .pointer (some ⟨b13, 0, none⟩), .pointer (some ⟨b14, 0, none⟩), s15, s16, s17, s18, s19, s20, s21, s22, s23, s24, s25, s26, s27, s28, s29, s30, s31, s32, s33, s34, s35, s36, s37, s38, s39, s40, s41, s42, s43, s44, s45, s46, s47, s48, s49, s50, s51, s52, s53, s54, s55, s56, s57, s58, s59, s60, s61, s62, s63, s64, s65, s66, s67, s68, s69, s70, s71, s72, s73, s74, s75, s76, s77, s78, s79, s80, .agg #[.int .i64 a0, .int .i64 a1, .int .i64 a2, .int .i64 a3, .slice (some ⟨aq, 0, none⟩) n acap, .int .i64 a5, .int .i64 a6, .int .i64 a7], .agg #[.int .i64 e0, .int .i64 e1, .int .i64 e2], s83, s84], defers := [] } W') :
    Go.Code.wp Try.prog (reg12b 18) (Only K_) { tmps := #[s0, s1, s2, s3, s4, s5, s6, s7, s8, .pointer (some ⟨b9, 0, none⟩), .pointer (some ⟨b10, 0, none⟩), s11, s12, .pointer (some ⟨b13, 0, none⟩), .pointer (some ⟨b14, 0, none⟩), s15, s16, s17, s18, s19, s20, s21, s22, s23, s24, s25, s26, s27, s28, s29, s30, s31, s32, s33, s34, s35, s36, s37, s38, s39, s40, s41, s42, s43, s44, s45, s46, s47, s48, s49, s50, s51, s52, s53, s54, s55, s56, s57, s58, s59, s60, s61, s62, s63, s64, s65, s66, s67, s68, s69, s70, s71, s72, s73, s74, s75, s76, s77, s78, s79, s80, s81, s82, s83, s84], defers := [] } V := by
  have HQ := hide hQ
  clear hQ
  conv => arg 2; whnf
  refine wp_region_inv2 (fun Lb A W => ∃ (u0 u1 u2 u3 : Bool) (dd : Nat), Lb = #[u0, u1, u2, u3] ∧ A = ({ tmps := #[s0, s1, s2, s3, s4, s5, s6, s7, s8, .pointer (some ⟨b9, 0, none⟩), .pointer (some ⟨b10, 0, none⟩), s11, s12, .pointer (some ⟨b13, 0, none⟩), .pointer (some ⟨b14, 0, none⟩), s15, s16, s17, s18, s19, s20, s21, s22, s23, s24, s25, s26, s27, s28, s29, s30, s31, s32, s33, s34, s35, s36, s37, s38, s39, s40, s41, s42, s43, s44, s45, s46, s47, s48, s49, s50, s51, s52, s53, s54, s55, s56, s57, s58, s59, s60, s61, s62, s63, s64, s65, s66, s67, s68, s69, s70, s71, s72, s73, s74, s75, s76, s77, s78, s79, s80, (bif u0 then .agg #[.int .i64 a0, .int .i64 a1, .int .i64 a2, .int .i64 a3, .slice (some ⟨aq, 0, none⟩) n acap, .int .i64 a5, .int .i64 a6, .int .i64 a7] else s81), (bif u1 then .agg #[.int .i64 e0, .int .i64 e1, .int .i64 e2] else s82), s83, s84], defers := [] } : Act) ∧ vb W b14 34 [.int .i64 a0, .int .i64 a1, .int .i64 a2, .int .i64 a3, .slice (some ⟨aq, 0, none⟩) n acap, .int .i64 a5, .int .i64 a6, .int .i64 a7] ∧ vb W b13 73 [.int .i64 e0, .int .i64 e1, .int .i64 e2] ∧ (u2 = false → vb W b9 34 [.int .i64 o0, .int .i64 o1, .int .i64 o2, .int .i64 o3, .slice (some ⟨oq, 0, none⟩) n ocap, .int .i64 o5, .int .i64 o6, .int .i64 o7]) ∧ (u2 = true → vb W b9 34 [.int .i64 a0, .int .i64 a1, .int .i64 a2, .int .i64 a3, .slice (some ⟨aq, 0, none⟩) n acap, .int .i64 a5, .int .i64 a6, .int .i64 a7]) ∧ (u3 = false → vb W b10 73 [.int .i64 d0, .int .i64 d1, .int .i64 d2]) ∧ (u3 = true → vb W b10 73 [.int .i64 e0, .int .i64 e1, .int .i64 e2]) ∧ Mq b9 b10 V W ∧ (u2 = true → u0 = true) ∧ (u3 = true → u0 = true ∧ u1 = true ∧ u2 = true)) (by kernel_rfl) (by kernel_rfl) ?h0 ?hstep ?hend
  case h0 =>
    exact ⟨false, false, false, false, 0, rfl, rfl, unhide HZ, unhide HG, (fun _ => unhide HN), (fun h => nomatch h), (fun _ => unhide HT), (fun h => nomatch h), (Mq.of_bel (Below.drew (Below.refl _ _))), (fun h => nomatch h), (fun h => nomatch h)⟩
  case hstep =>
    rintro Lb A W ⟨u0, u1, u2, u3, dd, rfl, rfl, kZ, kG, k9, k9b, kt, ktb, kM, c2, kF⟩
    refine ⟨?_, ?_, ?_, ?_, trivial⟩
    · intro h0 hd K hK
      have z : u0 = false := h0
      have z3_ : u3 = false := by
        cases hu : u3 with
        | false => rfl
        | true => exact nomatch z.symm.trans ((kF hu).1)
      have z2_ : u2 = false := by
        cases hu : u2 with
        | false => rfl
        | true => exact nomatch z.symm.trans ((c2 hu))
      have H_kZ := hide kZ
      have H_kG := hide kG
      have H_k9 := hide k9
      have H_k9b := hide k9b
      have H_kt := hide kt
      have H_ktb := hide ktb
      have H_kM := hide kM
      have H_c2 := hide c2
      have H_kF := hide kF
      clear kZ kG k9 k9b kt ktb kM c2 kF
      subst z3_
      subst z2_
      subst z
      clear h0 hd
      rw [if_pos (by rfl)]
      have v1 := unhide H_kZ
      have q0 := v1.cell (m := 0) rfl
      have q1 := v1.cell (m := 1) rfl
      have q2 := v1.cell (m := 2) rfl
      have q3 := v1.cell (m := 3) rfl
      have q4 := v1.cell (m := 4) rfl
      have q5 := v1.cell (m := 5) rfl
      have q6 := v1.cell (m := 6) rfl
      have q7 := v1.cell (m := 7) rfl
      clear v1
      go_simp
      exact unhide hK _ _ ⟨true, u1, false, false, dd, rfl, rfl, unhide H_kZ, unhide H_kG, unhide H_k9, (fun h => nomatch h), unhide H_kt, (fun h => nomatch h), unhide H_kM, (fun h => nomatch h), (fun h => nomatch h)⟩
    · intro h0 hd K hK
      have z : u1 = false := h0
      have z3_ : u3 = false := by
        cases hu : u3 with
        | false => rfl
        | true => exact nomatch z.symm.trans ((kF hu).2.1)
      have H_kZ := hide kZ
      have H_kG := hide kG
      have H_k9 := hide k9
      have H_k9b := hide k9b
      have H_kt := hide kt
      have H_ktb := hide ktb
      have H_kM := hide kM
      have H_c2 := hide c2
      have H_kF := hide kF
      clear kZ kG k9 k9b kt ktb kM c2 kF
      subst z3_
      subst z
      clear h0 hd
      rw [if_pos (by rfl)]
      have v1 := unhide H_kG
      have q0 := v1.cell (m := 0) rfl
      have q1 := v1.cell (m := 1) rfl
      have q2 := v1.cell (m := 2) rfl
      clear v1
      go_simp
      exact unhide hK _ _ ⟨u0, true, u2, false, dd, rfl, rfl, unhide H_kZ, unhide H_kG, unhide H_k9, unhide H_k9b, unhide H_kt, (fun h => nomatch h), unhide H_kM, unhide H_c2, (fun h => nomatch h)⟩
    · intro h0 hd K hK
      have z : u2 = false := h0
      have z3_ : u3 = false := by
        cases hu : u3 with
        | false => rfl
        | true => exact nomatch z.symm.trans ((kF hu).2.2)
      have zd : u0 = true := by
        simp [Region.binds] at hd
        simp [hd]
      have H_kZ := hide kZ
      have H_kG := hide kG
      have H_k9 := hide k9
      have H_k9b := hide k9b
      have H_kt := hide kt
      have H_ktb := hide ktb
      have H_kM := hide kM
      have H_c2 := hide c2
      have H_kF := hide kF
      clear kZ kG k9 k9b kt ktb kM c2 kF
      obtain ⟨rfl⟩ := zd
      subst z3_
      subst z
      clear h0 hd
      rw [if_pos (by rfl)]
      have v1 := unhide H_k9 rfl
      have fz := v1.frozen
      have q0 := v1.cell (m := 0) rfl
      have q1 := v1.cell (m := 1) rfl
      have q2 := v1.cell (m := 2) rfl
      have q3 := v1.cell (m := 3) rfl
      have q4 := v1.cell (m := 4) rfl
      have q5 := v1.cell (m := 5) rfl
      have q6 := v1.cell (m := 6) rfl
      have q7 := v1.cell (m := 7) rfl
      clear v1
      go_simp
      exact unhide hK _ _ ⟨true, u1, true, false, dd, rfl, rfl, ((((((((unhide H_kZ).ne m1).ne m1).ne m1).ne m1).ne m1).ne m1).ne m1).ne m1, ((((((((unhide H_kG).ne m3).ne m3).ne m3).ne m3).ne m3).ne m3).ne m3).ne m3, (fun h => nomatch h), (fun _ => ((((((((unhide H_k9 rfl).set 0 _).set 1 _).set 2 _).set 3 _).set 4 _).set 5 _).set 6 _).set 7 _), (fun h => ((((((((unhide H_kt h).ne n6).ne n6).ne n6).ne n6).ne n6).ne n6).ne n6).ne n6), (fun h => nomatch h), Mq.setA (Mq.setA (Mq.setA (Mq.setA (Mq.setA (Mq.setA (Mq.setA (Mq.setA (unhide H_kM) _ _) _ _) _ _) _ _) _ _) _ _) _ _) _ _, (fun _ => rfl), (fun h => nomatch h)⟩
    · intro h0 hd K hK
      have z : u3 = false := h0
      have zd : u1 = true ∧ u2 = true ∧ u0 = true := by
        simp [Region.binds] at hd
        simp_all
      have H_kZ := hide kZ
      have H_kG := hide kG
      have H_k9 := hide k9
      have H_k9b := hide k9b
      have H_kt := hide kt
      have H_ktb := hide ktb
      have H_kM := hide kM
      have H_c2 := hide c2
      have H_kF := hide kF
      clear kZ kG k9 k9b kt ktb kM c2 kF
      obtain ⟨rfl, rfl, rfl⟩ := zd
      subst z
      clear h0 hd
      rw [if_pos (by rfl)]
      have v1 := unhide H_kt rfl
      have fz := v1.frozen
      have q0 := v1.cell (m := 0) rfl
      have q1 := v1.cell (m := 1) rfl
      have q2 := v1.cell (m := 2) rfl
      clear v1
      go_simp
      exact unhide hK _ _ ⟨true, true, true, true, dd, rfl, rfl, (((unhide H_kZ).ne m2).ne m2).ne m2, (((unhide H_kG).ne m4).ne m4).ne m4, (fun h => nomatch h), (fun h => (((unhide H_k9b h).ne n5).ne n5).ne n5), (fun h => nomatch h), (fun _ => (((unhide H_kt rfl).set 0 _).set 1 _).set 2 _), Mq.setB (Mq.setB (Mq.setB (unhide H_kM) _ _) _ _) _ _, (fun _ => rfl), (fun _ => ⟨rfl, rfl, rfl⟩)⟩
  case hend =>
    rintro Lb A W ⟨u0, u1, u2, u3, dd, rfl, rfl, kZ, kG, k9, k9b, kt, ktb, kM, c2, kF⟩ hL
    have hl : u0 = true ∧ u1 = true ∧ u2 = true ∧ u3 = true := by
      have h2 := congrArg Array.toList hL
      simpa [List.replicate] using h2
    obtain ⟨rfl, rfl, rfl, rfl⟩ := hl
    exact unhide HQ W (k9b rfl) (ktb rfl) kM

end Go.Proofs.Ytjhldjojkaphkaa

namespace Go.Proofs.Ytjhldjojkaphkaa
open Go.ChangeShapes Go.WideShapes Go.ChangeAt Go.RowKit
set_option linter.unusedVariables false
set_option linter.unusedSimpArgs false

theorem vb.mq3 {a b : Nat} {x y : World} {k t : Nat} {vs : List Value} (h : vb x k t vs) (hm : Mq a b x y) (h1 : k ≠ a) (h2 : k ≠ b) : vb y k t vs := (hm.block k h.lt h1 h2).trans h
theorem Mq.belw3 {a b C : Nat} {x y : World} (h : Mq a b x y) (hC : C ≤ x.heap.size) (h1 : C ≤ a) (h2 : C ≤ b) : Below C x y := ⟨h.os, h.tape, h.output, h.size, fun k hk => h.block k (by omega) (by omega) (by omega)⟩
theorem inR_24 {W H : Nat} {x y z : Int} (hW : W ≤ 24) (hH : H ≤ 24) (h : inR W H x y z) : (0 ≤ x ∧ x ≤ 24) ∧ (0 ≤ y ∧ y ≤ 24) ∧ (0 ≤ z ∧ z ≤ 24) := by
  unfold inR at h
  omega
/-- the places of a way -/
theorem ptP_way (W H : Nat) (fx fy fz tx ty tz : Int) (w : World) (hW : W ≤ 24) (hH : H ≤ 24) (hf : inR W H fx fy fz) (ht : inR W H tx ty tz) (hs : str fx fy fz tx ty tz) :
    Calls Try.prog 47 #[.agg #[.int .i64 fx, .int .i64 fy, .int .i64 fz], .agg #[.int .i64 tx, .int .i64 ty, .int .i64 tz]] w fun e w' => (∃ wv cw, e = .returned (.slice (some ⟨wv, 0, none⟩) (max (stN fx fy fz tx ty tz) 1) cw) ∧ wv < w'.heap.size ∧ IntsAt w' wv 0 (wayF fx fy fz tx ty tz (max (stN fx fy fz tx ty tz) 1))) ∧ Below w.heap.size w w' := by
  refine (ptP_any fx fy fz tx ty tz w hs (inR_24 hW hH hf) (inR_24 hW hH ht)).mono ?_
  rintro e w' ⟨⟨v, rfl, hv, hro⟩, hb⟩
  obtain ⟨q, cap, rfl, h1, h2, h3, h4, h5⟩ := hro.full (by omega)
  exact ⟨⟨q, cap, rfl, h2, h3⟩, hb⟩
/-- milling along a way -/
theorem afP_way (W H r : Nat) (fast : Bool) (q n cap wv cw g po c : Nat) (fx fy fz tx ty tz : Int) (P : List Int) (s : Ml) (w : World)
    (hW1 : 1 ≤ W) (hW : W ≤ 24) (hH1 : 1 ≤ H) (hH : H ≤ 24) (hr : r ≤ 3) (hn : n = W * H) (hO : MOk n s) (hA : 0 ≤ s.air ∧ s.air ≤ 900000)
    (hf : inR W H fx fy fz) (ht : inR W H tx ty tz) (hs : str fx fy fz tx ty tz)
    (hT : Fd w q 0 n cap s.T) (hP : Fd w g po n c P) (hV : wv < w.heap.size ∧ IntsAt w wv 0 (wayF fx fy fz tx ty tz (max (stN fx fy fz tx ty tz) 1))) :
    Calls Try.prog 46 #[.agg #[.int .i64 0, .int .i64 0, .int .i64 (W : Int), .int .i64 (H : Int), .slice (some ⟨q, 0, none⟩) n cap, .int .i64 s.cut, .int .i64 s.air, .int .i64 s.dep], .slice (some ⟨wv, 0, none⟩) (max (stN fx fy fz tx ty tz) 1) cw, .agg #[.int .i64 (W : Int), .int .i64 (H : Int), .slice (some ⟨g, po, none⟩) n c], .int .i64 (r : Int), .bool fast] w fun x w' => (∃ q2 cap2 s2 cd, x = .returned (.tuple #[.agg #[.int .i64 0, .int .i64 0, .int .i64 (W : Int), .int .i64 (H : Int), .slice (some ⟨q2, 0, none⟩) n cap2, .int .i64 s2.cut, .int .i64 s2.air, .int .i64 s2.dep], .int .i64 cd]) ∧ Row w' w.heap.size 3 1 (.slice (some ⟨q2, 0, none⟩) n cap2) n s2.T ∧ (cd = (walkC P W H r fast fx fy fz tx ty tz s (max (stN fx fy fz tx ty tz) 1)).1 ∧ (cd = 0 → s2 = (walkC P W H r fast fx fy fz tx ty tz s (max (stN fx fy fz tx ty tz) 1)).2))) ∧ Below w.heap.size w w' := by
  have h24 := stN_le hW hH hs hf ht
  refine (afP_any W H r fast 0 0 q 0 n cap wv cw g po c _ fx fy fz tx ty tz P s w hW1 hW hH1 hH hr hn hO hA (by omega) hT hP hV ?_ ?_ ?_).mono ?_
  · intro i i1 i2
    have hx := nth_lo hs i2 i1 (lo := 0) (hi' := (W : Int) - 1)
    have hy := nth_lo hs i2 i1 (lo := 0) (hi' := (H : Int) - 1)
    have hz := nth_lo hs i2 i1 (lo := 0) (hi' := 24)
    exact ⟨hx.1 hf.1 ht.1, hy.2.1 hf.2.1 ht.2.1, hz.2.2 hf.2.2 ht.2.2⟩
  · exact walkC_ok hr (by omega) hn hO (fun i i1 i2 => ((nth_lo hs i2 i1 (lo := 0) (hi' := 24)).2.2 hf.2.2 ht.2.2).1)
  · intro k hk hc
    have := walkC_stick hc (max (stN fx fy fz tx ty tz) 1 - k)
    rwa [show k + (max (stN fx fy fz tx ty tz) 1 - k) = max (stN fx fy fz tx ty tz) 1 by omega] at this
  · rintro x w' ⟨⟨q2, cap2, s2, cd, rfl, hro, h1, h2⟩, hb⟩
    exact ⟨⟨q2, cap2, s2, cd, rfl, hro, h1, h2⟩, hb⟩
set_option maxHeartbeats 8000000 in
set_option maxRecDepth 100000 in
theorem mlP_good (W H r gs pos cs g po c n : Nat) (S P : List Int) (um : Option Addr) (pm pom m cm : Nat) (ms : List Mve) (w : World)
    (hW1 : 1 ≤ W) (hW : W ≤ 24) (hH1 : 1 ≤ H) (hH : H ≤ 24) (hr : r ≤ 3) (hn : n = W * H) (hS : Fd w gs pos n cs S) (hP : Fd w g po n c P)
    (hSt : ∀ i, 0 ≤ tp S i ∧ tp S i ≤ 24) (hPt : ∀ i, 0 ≤ tp P i ∧ tp P i ≤ 24) (hst : stB W H S W H P = true) (hm : ms.length = m) (hm2 : m ≤ 2000) (hmv : Mvi w um pm pom ms) :
    Calls Try.prog 12 #[fldV W H (some ⟨gs, pos, none⟩) n cs, fldV W H (some ⟨g, po, none⟩) n c, .int .i64 (r : Int), .slice um m cm] w fun e w' => (∃ i q cap, MlEnd P W H r S ms i ∧ e = .returned (.agg (pnV (mlC P W H r S ms i) (mlB ms i) W H q n cap (mlK P W H r S ms i).2).toArray) ∧ Row w' w.heap.size 3 1 (.slice (some ⟨q, 0, none⟩) n cap) n (mlK P W H r S ms i).2.T) ∧ Below w.heap.size w w' := by
  have hnb : n ≤ 576 := by rw [hn]; exact Nat.mul_le_mul hW hH
  have HPR := hide (fun X (hX : Below w.heap.size w X) => (stP_any W H (some ⟨gs, pos, none⟩) gs pos n cs S W H (some ⟨g, po, none⟩) g po n c P X hS.len (by omega) (hS.bel hX).its hP.len (by omega) (hP.bel hX).its))
  rw [hst] at HPR
  have htl : (decide (0 ≤ (r : Int)) && decide ((r : Int) ≤ 3)) = true := by rw [decide_eq_true (show (0 : Int) ≤ (r : Int) by omega), decide_eq_true (show (r : Int) ≤ 3 by omega)]; rfl
  have HTL := hide (fun X => rtP_any (r : Int) X)
  rw [htl] at HTL
  have HCP := hide (fun X (hX : Below w.heap.size w X) => cpP_any (W : Int) (H : Int) gs pos n cs S X (hS.bel hX) hnb)
  have HWY := hide (fun (fx fy fz tx ty tz : Int) X => wycP_any W H (some ⟨gs, pos, none⟩) n cs fx fy fz tx ty tz X hW1 hW hH1 hH)
  have HPT := hide (fun (fx fy fz tx ty tz : Int) X => ptP_way W H fx fy fz tx ty tz X hW hH)
  have HAF := hide (fun (fast : Bool) (q cap wv cw : Nat) (fx fy fz tx ty tz : Int) (s : Ml) (X : World) => afP_way W H r fast q n cap wv cw g po c fx fy fz tx ty tz P s X hW1 hW hH1 hH hr hn)
  have HOK := hide (mlK_ok (P := P) (ms := ms) hr hW1 hW hH1 hH hn hS.len hSt)
  have HPF := hide hP
  have HMS := hide hmv
  have HML := hide hm
  have t1 : decide ((4096 : Int) < (m : Int)) = false := decide_eq_false (by omega)
  have t2 : decide ((2000 : Int) < (m : Int)) = false := decide_eq_false (by omega)
  have HB := hide (ba (ba (ba (Below.refl w.heap.size w) (.cells #[.int .i64 (W : Int), .int .i64 (H : Int), .slice (some ⟨gs, pos, none⟩) n cs] 25)) (.cells #[.int .i64 (W : Int), .int .i64 (H : Int), .slice (some ⟨g, po, none⟩) n c] 25)) (.cells #[.int .i64 0, .int .i64 0, .int .i64 0, .int .i64 0, .slice none 0 0, .int .i64 0, .int .i64 0, .int .i64 0] 34))
  have HV0 := hide (((vb_new w 25 [.int .i64 (W : Int), .int .i64 (H : Int), .slice (some ⟨gs, pos, none⟩) n cs] w.heap.size rfl).bel (ba (Below.refl _ _) (.cells #[.int .i64 (W : Int), .int .i64 (H : Int), .slice (some ⟨g, po, none⟩) n c] 25))).bel (ba (Below.refl _ _) (.cells #[.int .i64 0, .int .i64 0, .int .i64 0, .int .i64 0, .slice none 0 0, .int .i64 0, .int .i64 0, .int .i64 0] 34)))
  have HV1 := hide ((vb_new (w.alloc (.cells #[.int .i64 (W : Int), .int .i64 (H : Int), .slice (some ⟨gs, pos, none⟩) n cs] 25)) 25 [.int .i64 (W : Int), .int .i64 (H : Int), .slice (some ⟨g, po, none⟩) n c] (w.heap.size + 1) (by simp)).bel (ba (Below.refl _ _) (.cells #[.int .i64 0, .int .i64 0, .int .i64 0, .int .i64 0, .slice none 0 0, .int .i64 0, .int .i64 0, .int .i64 0] 34)))
  have HV2 := hide (vb_new ((w.alloc (.cells #[.int .i64 (W : Int), .int .i64 (H : Int), .slice (some ⟨gs, pos, none⟩) n cs] 25)).alloc (.cells #[.int .i64 (W : Int), .int .i64 (H : Int), .slice (some ⟨g, po, none⟩) n c] 25)) 34 [.int .i64 0, .int .i64 0, .int .i64 0, .int .i64 0, .slice none 0 0, .int .i64 0, .int .i64 0, .int .i64 0] (w.heap.size + 2) (by simp))
  have HSZ : Hid (w.heap.size + 3 ≤ (((w.alloc (.cells #[.int .i64 (W : Int), .int .i64 (H : Int), .slice (some ⟨gs, pos, none⟩) n cs] 25)).alloc (.cells #[.int .i64 (W : Int), .int .i64 (H : Int), .slice (some ⟨g, po, none⟩) n c] 25)).alloc (.cells #[.int .i64 0, .int .i64 0, .int .i64 0, .int .i64 0, .slice none 0 0, .int .i64 0, .int .i64 0, .int .i64 0] 34)).heap.size) := hide (by simp)
  unfold fldV plW at *
  clear hS hP hSt hPt hst hmv hm htl hn
  go_enter Try.func12, Try.ntmps12
  go_wp2_with fail
  generalize ((w.alloc (.cells #[.int .i64 (W : Int), .int .i64 (H : Int), .slice (some ⟨gs, pos, none⟩) n cs] 25)).alloc (.cells #[.int .i64 (W : Int), .int .i64 (H : Int), .slice (some ⟨g, po, none⟩) n c] 25)).alloc (.cells #[.int .i64 0, .int .i64 0, .int .i64 0, .int .i64 0, .slice none 0 0, .int .i64 0, .int .i64 0, .int .i64 0] 34) = Wa at *
  refine (unhide HPR _ (unhide HB)).mono ?_
  rintro x W1 ⟨rfl, hb1⟩
  have HV0b := hide ((unhide HV0).bel hb1)
  have HV1b := hide ((unhide HV1).bel hb1)
  have HV2b := hide ((unhide HV2).bel hb1)
  have HB1 := hide (bc (unhide HB) hb1)
  have HS1 : Hid (w.heap.size + 3 ≤ W1.heap.size) := hide (Nat.le_trans (unhide HSZ) hb1.size)
  clear hb1 HV0 HV1 HV2 HB HSZ
  go_wp2_with fail
  refine (unhide HTL _).mono ?_
  rintro x W2 ⟨rfl, rfl⟩
  have HV0c := HV0b
  have HV1c := HV1b
  have HV2c := HV2b
  have HB2 := HB1
  have HS2 := HS1
  clear HV0b HV1b HV2b HB1 HS1
  have a0 := (unhide HV0c).cell (m := 0) rfl
  have a1 := (unhide HV0c).cell (m := 1) rfl
  have a2 := (unhide HV0c).cell (m := 2) rfl
  go_wp2_with fail
  refine (unhide HCP _ (unhide HB2)).mono ?_
  rintro x W3 ⟨⟨q, cap, rfl, hro⟩, hb3⟩
  have hA : Below W3.heap.size W3 (W3.alloc (.cells #[.int .i64 0, .int .i64 0, .int .i64 (W : Int), .int .i64 (H : Int), .slice (some ⟨q, 0, none⟩) n cap, .int .i64 0, .int .i64 0, .int .i64 0] 34)) := ba (Below.refl _ _) _
  have hA2 : Below W3.heap.size W3 ((W3.alloc (.cells #[.int .i64 0, .int .i64 0, .int .i64 (W : Int), .int .i64 (H : Int), .slice (some ⟨q, 0, none⟩) n cap, .int .i64 0, .int .i64 0, .int .i64 0] 34)).alloc (.cells #[.int .i64 0, .int .i64 0, .int .i64 24] 73)) := ba hA _
  have HV0 := hide (((unhide HV0c).bel hb3).bel hA2)
  have HV1 := hide (((unhide HV1c).bel hb3).bel hA2)
  have HV2 := hide (((unhide HV2c).bel hb3).bel hA2)
  have HB3 := hide (bc (bc (unhide HB2) hb3) hA2)
  have h93 : w.heap.size + 3 ≤ W3.heap.size := Nat.le_trans (unhide HS2) hb3.size
  have HV9 := hide (vb_new1 W3 34 [.int .i64 0, .int .i64 0, .int .i64 (W : Int), .int .i64 (H : Int), .slice (some ⟨q, 0, none⟩) n cap, .int .i64 0, .int .i64 0, .int .i64 0] (.cells #[.int .i64 0, .int .i64 0, .int .i64 24] 73))
  have HV10 := hide (vb_new2 W3 73 [.int .i64 0, .int .i64 0, .int .i64 24] (.cells #[.int .i64 0, .int .i64 0, .int .i64 (W : Int), .int .i64 (H : Int), .slice (some ⟨q, 0, none⟩) n cap, .int .i64 0, .int .i64 0, .int .i64 0] 34))
  have HPN : Hid (Pn ((W3.alloc (.cells #[.int .i64 0, .int .i64 0, .int .i64 (W : Int), .int .i64 (H : Int), .slice (some ⟨q, 0, none⟩) n cap, .int .i64 0, .int .i64 0, .int .i64 0] 34)).alloc (.cells #[.int .i64 0, .int .i64 0, .int .i64 24] 73)) (w.heap.size + 3) W3.heap.size 0 0 W H q n cap ⟨S, 0, 0, 0⟩) := hide ⟨unhide HV9, (hro.below hA2).mono (unhide HS2)⟩
  have HQ9 : Hid (W3.heap.size ≠ q ∧ W3.heap.size + 1 ≠ q) := hide (by have := (World.ownsRow.lt hro q rfl).2; omega)
  clear a0 a1 a2 hA hA2 HV9 hro hb3 HV0c HV1c HV2c HB2 HS2 HPR HCP HTL
  go_wp2_with fail
  generalize (W3.alloc (.cells #[.int .i64 0, .int .i64 0, .int .i64 (W : Int), .int .i64 (H : Int), .slice (some ⟨q, 0, none⟩) n cap, .int .i64 0, .int .i64 0, .int .i64 0] 34)).alloc (.cells #[.int .i64 0, .int .i64 0, .int .i64 24] 73) = W4 at *
  generalize W3.heap.size = b9 at *
  go_loopw [43] (fun zz X => ∃ (i q cap : Nat), zz = .int .i64 (i : Int) ∧ i ≤ m ∧ mlGo P W H r S ms i ∧ Pn X (w.heap.size + 3) b9 0 0 W H q n cap (mlK P W H r S ms i).2 ∧ (b9 ≠ q ∧ b9 + 1 ≠ q) ∧ vb X (b9 + 1) 73 [.int .i64 (mlK P W H r S ms i).1.1, .int .i64 (mlK P W H r S ms i).1.2.1, .int .i64 (mlK P W H r S ms i).1.2.2] ∧ vb X w.heap.size 25 [.int .i64 (W : Int), .int .i64 (H : Int), .slice (some ⟨gs, pos, none⟩) n cs] ∧ vb X (w.heap.size + 1) 25 [.int .i64 (W : Int), .int .i64 (H : Int), .slice (some ⟨g, po, none⟩) n c] ∧ vb X (w.heap.size + 2) 34 [.int .i64 0, .int .i64 0, .int .i64 0, .int .i64 0, .slice none 0 0, .int .i64 0, .int .i64 0, .int .i64 0] ∧ Below w.heap.size w X) (fun zz _ => m - (intOf zz).toNat)
  case atStart => exact ⟨0, q, cap, rfl, Nat.zero_le _, (fun j hj => absurd hj (Nat.not_lt_zero j)), unhide HPN, unhide HQ9, unhide HV10, unhide HV0, unhide HV1, unhide HV2, unhide HB3⟩
  case round =>
    obtain ⟨i, q, cap, rfl, hii, hgo, hR, ⟨hq9, hq10⟩, hv10, hv0, hv1, hv2, hw⟩ := hrel
    have HGO := hide hgo
    have HOKi := hide ((unhide HOK) i hgo)
    obtain ⟨fx, hax⟩ : ∃ ax, (mlK P W H r S ms i).1.1 = ax := ⟨_, rfl⟩
    obtain ⟨fy, hay⟩ : ∃ ay, (mlK P W H r S ms i).1.2.1 = ay := ⟨_, rfl⟩
    obtain ⟨fz, haz⟩ : ∃ az, (mlK P W H r S ms i).1.2.2 = az := ⟨_, rfl⟩
    obtain ⟨s, hs⟩ : ∃ s, (mlK P W H r S ms i).2 = s := ⟨_, rfl⟩
    have HKE : Hid ((mlK P W H r S ms i) = ((fx, fy, fz), s)) := hide (by rw [← hax, ← hay, ← haz, ← hs])
    rw [hs] at hR
    rw [hax, hay, haz] at hv10
    have HRi := hide hR
    have HTi := hide hv10
    have HV0i := hide hv0
    have HV1i := hide hv1
    have HV2i := hide hv2
    have HWi := hide hw
    clear hgo hR hv10 hv0 hv1 hv2 hw hax hay haz hs HPN HV0 HV1 HV2 HV10 HB3
    by_cases h : i < m
    · have l1 : (i : Int) < (m : Int) := by omega
      have l0 : (0 : Int) ≤ (i : Int) := Int.natCast_nonneg _
      have lz := decide_eq_true l1
      obtain ⟨⟨fa, tx, ty, tz⟩, hx⟩ := get_some (unhide HML) h
      have HX := hide hx
      have HIL : Hid (i < ms.length) := hide (by rw [unhide HML]; exact h)
      obtain ⟨rfl, pw, c0, c1, c2, c3⟩ := ((unhide HMS).bel (unhide HWi)).at hx
      simp only at c0 c1 c2 c3
      clear hx
      have h10lt := (unhide HTi).lt
      have hqlt := (World.ownsRow.lt (unhide HRi).row q rfl).2
      have hA : Below wr.heap.size wr ((wr.alloc (.cells #[.bool fa, .int .i64 tx, .int .i64 ty, .int .i64 tz] 65)).alloc (.cells #[.int .i64 tx, .int .i64 ty, .int .i64 tz] 73)) := ba (ba (Below.refl _ _) _) _
      have HRa := hide ((unhide HRi).bel hA)
      have HTa := hide ((unhide HTi).bel hA)
      have HV0a := hide ((unhide HV0i).bel hA)
      have HV1a := hide ((unhide HV1i).bel hA)
      have HV2a := hide ((unhide HV2i).bel hA)
      have HWa := hide (bc (unhide HWi) hA)
      have HMa := hide (vb_new1 wr 65 [.bool fa, .int .i64 tx, .int .i64 ty, .int .i64 tz] (.cells #[.int .i64 tx, .int .i64 ty, .int .i64 tz] 73))
      have HGa := hide (vb_new2 wr 73 [.int .i64 tx, .int .i64 ty, .int .i64 tz] (.cells #[.bool fa, .int .i64 tx, .int .i64 ty, .int .i64 tz] 65))
      have HSa : Hid (wr.heap.size + 2 ≤ ((wr.alloc (.cells #[.bool fa, .int .i64 tx, .int .i64 ty, .int .i64 tz] 65)).alloc (.cells #[.int .i64 tx, .int .i64 ty, .int .i64 tz] 73)).heap.size) := hide (by simp)
      clear hA HRi HTi HV0i HV1i HV2i HWi
      go_upto_region 12 with fail
      generalize (wr.alloc (.cells #[.bool fa, .int .i64 tx, .int .i64 ty, .int .i64 tz] 65)).alloc (.cells #[.int .i64 tx, .int .i64 ty, .int .i64 tz] 73) = Wb at *
      generalize wr.heap.size = D at *
      have a0 := (unhide HV0a).cell (m := 0) rfl
      have a1 := (unhide HV0a).cell (m := 1) rfl
      have a2 := (unhide HV0a).cell (m := 2) rfl
      have d0 := (unhide HTa).cell (m := 0) rfl
      have d1 := (unhide HTa).cell (m := 1) rfl
      have d2 := (unhide HTa).cell (m := 2) rfl
      have e0 := (unhide HGa).cell (m := 0) rfl
      have e1 := (unhide HGa).cell (m := 1) rfl
      have e2 := (unhide HGa).cell (m := 2) rfl
      go_wp2_with fail
      refine (unhide HWY fx fy fz tx ty tz _).mono ?_
      rintro x W5 ⟨rfl, hb5⟩
      have hA5 : Below W5.heap.size W5 (W5.alloc (.cells #[.int .i64 0, .int .i64 0, .int .i64 0, .int .i64 0, .slice none 0 0, .int .i64 0, .int .i64 0, .int .i64 0] 34)) := ba (Below.refl _ _) _
      have HR5 := hide (((unhide HRa).bel hb5).bel hA5)
      have HT5 := hide (((unhide HTa).bel hb5).bel hA5)
      have HV05 := hide (((unhide HV0a).bel hb5).bel hA5)
      have HV15 := hide (((unhide HV1a).bel hb5).bel hA5)
      have HV25 := hide (((unhide HV2a).bel hb5).bel hA5)
      have HW5 := hide (bc (bc (unhide HWa) hb5) hA5)
      have HM5 := hide (((unhide HMa).bel hb5).bel hA5)
      have HG5 := hide (((unhide HGa).bel hb5).bel hA5)
      have HZ5 := hide (vb_new W5 34 [.int .i64 0, .int .i64 0, .int .i64 0, .int .i64 0, .slice none 0 0, .int .i64 0, .int .i64 0, .int .i64 0] W5.heap.size rfl)
      have hS5 : D + 2 ≤ W5.heap.size := Nat.le_trans (unhide HSa) hb5.size
      clear hb5 hA5 HRa HTa HV0a HV1a HV2a HWa HMa HGa HSa a0 a1 a2 d0 d1 d2 e0 e1 e2
      have HMC : Hid (mlC P W H r S ms i = mvCd P W H r fa fx fy fz tx ty tz s) := hide (mlC_at (unhide HX) (unhide HKE))
      obtain ⟨wc, hwc⟩ : ∃ wc, wyC W H fx fy fz tx ty tz = wc := ⟨_, rfl⟩
      rw [hwc]
      have HWC := hide hwc
      clear hwc
      by_cases hwz : wc = 0
      · subst hwz
        obtain ⟨hin, hstr⟩ := wyC_zero (unhide HWC)
        have HIN := hide hin
        have HSTR := hide hstr
        clear hin hstr
        have hm0 := (unhide HM5).cell (m := 0) rfl
        have HMC2 : Hid (mlC P W H r S ms i = (walkC P W H r fa fx fy fz tx ty tz s (max (stN fx fy fz tx ty tz) 1)).1) := hide (by rw [unhide HMC]; unfold mvCd; rw [if_neg (by rw [unhide HWC]; simp)])
        go_wp2_with fail
        generalize W5.alloc (.cells #[.int .i64 0, .int .i64 0, .int .i64 0, .int .i64 0, .slice none 0 0, .int .i64 0, .int .i64 0, .int .i64 0] 34) = W6 at *
        generalize W5.heap.size = E at *
        refine Go.Code.wp_mono (Only.to (fun _ _ h => h)) (mp14 (s := s) (fa := fa) (Rf := fun s2 cd => cd = (walkC P W H r fa fx fy fz tx ty tz s (max (stN fx fy fz tx ty tz) 1)).1 ∧ (cd = 0 → s2 = (walkC P W H r fa fx fy fz tx ty tz s (max (stN fx fy fz tx ty tz) 1)).2)) (N := max (stN fx fy fz tx ty tz) 1) (L := wayF fx fy fz tx ty tz (max (stN fx fy fz tx ty tz) 1)) HV15 (hide (unhide HR5).v) HT5 HG5 (hide hm0) HZ5
          (hide fun X hX => (unhide HPT) fx fy fz tx ty tz X (by have := (unhide HOKi).at'; rw [unhide HKE] at this; exact this) (unhide HIN) (unhide HSTR))
          (hide fun wv cw X hX h1 h2 => (unhide HAF) fa q cap wv cw fx fy fz tx ty tz s X (by have := (unhide HOKi).ok; rw [unhide HKE] at this; exact this) (by have := (unhide HOKi).air; rw [unhide HKE] at this; simp only at this; omega) (by have := (unhide HOKi).at'; rw [unhide HKE] at this; exact this) (unhide HIN) (unhide HSTR) ((unhide HR5).bel hX).row.fd ((unhide HPF).bel (bc (unhide HW5) hX)) ⟨h1, h2⟩)
          (fun y63 y64 y65 y66 y67 y68 y69 y70 y71 y62 y72 y73 q2 cap2 s2 cd W7 hro7 hrf7 hv7 hm7 => ?_))
        obtain ⟨hcd, hs2⟩ := hrf7
        have hE : E < W6.heap.size := (unhide HZ5).lt
        have h10E : b9 + 1 < E := by omega
        have HR7 : Hid (Pn W7 (w.heap.size + 3) b9 0 0 W H q n cap s) := hide ⟨(unhide HR5).v.mq3 hm7 (by omega) (by omega), (unhide HR5).row.kept' (fun y hy => by
          simp only [Value.ownBlock, Option.some.injEq] at hy
          subst hy
          exact hm7.block _ (World.ownsRow.lt (unhide HR5).row _ rfl).2 (by omega) (by omega))⟩
        have HT7 := hide ((unhide HT5).mq3 hm7 (by omega) (by omega))
        have HG7 := hide ((unhide HG5).mq3 hm7 (by omega) (by omega))
        have HV07 := hide ((unhide HV05).mq3 hm7 (by omega) (by omega))
        have HV17 := hide ((unhide HV15).mq3 hm7 (by omega) (by omega))
        have HV27 := hide ((unhide HV25).mq3 hm7 (by omega) (by omega))
        have HW7 := hide ((unhide HW5).trans (hm7.belw3 (C := w.heap.size) (unhide HW5).size (by omega) (by omega)))
        have HZ7 := hide hv7
        have HRO7 := hide hro7
        have hq2 : W6.heap.size ≤ q2 := hro7.ge
        have HMC3 : Hid (mlC P W H r S ms i = cd) := hide (by rw [unhide HMC2, hcd])
        have HS2 := hide hs2
        clear hro7 hv7 hm7 hcd hs2 hm0 HR5 HT5 HG5 HV05 HV15 HV25 HW5 HZ5 HM5 HMC HMC2
        by_cases hz : cd = 0
        · subst hz
          have HKN := hide (mlK_succ (unhide HX) (unhide HKE))
          have HSE := hide ((unhide HS2) rfl)
          clear HS2
          have n1 : E ≠ b9 := by omega
          have n2 : E ≠ b9 + 1 := by omega
          have n3 : D + 1 ≠ b9 := by omega
          have n4 : D + 1 ≠ b9 + 1 := by omega
          have HV9 := hide (unhide HR7).v
          go_wp2_with fail
          refine Go.Code.wp_mono (Only.to (fun _ _ h => h)) (mp18 n1 n2 n3 n4 (by omega) (by omega) HZ7 HG7 HV9 HT7 (fun W8 h9 h10 hm8 => ?_))
          have hq9b : b9 ≠ q2 := by omega
          have hq10b : b9 + 1 ≠ q2 := by omega
          have HN9 := hide h9
          have HN10 := hide h10
          have HN0 := hide ((unhide HV07).mq3 hm8 (by omega) (by omega))
          have HN1 := hide ((unhide HV17).mq3 hm8 (by omega) (by omega))
          have HN2 := hide ((unhide HV27).mq3 hm8 (by omega) (by omega))
          have HNW := hide ((unhide HW7).trans (hm8.belw3 (C := w.heap.size) (unhide HW7).size (by omega) (by omega)))
          have HNR := hide ((unhide HRO7).kept' (w' := W8) (fun y hy => by
            simp only [Value.ownBlock, Option.some.injEq] at hy
            subst hy
            exact hm8.block _ (World.ownsRow.lt (unhide HRO7) _ rfl).2 (Ne.symm hq9b) (Ne.symm hq10b)))
          clear h9 h10 hm8
          go_wp2_with fail
          go_roundw
          case rel =>
            refine ⟨i + 1, q2, cap2, by simp, h, mlGo_succ (unhide HGO) (unhide HMC3), ?_, ⟨hq9b, hq10b⟩, ?_, unhide HN0, unhide HN1, unhide HN2, unhide HNW⟩
            · rw [unhide HKN, ← unhide HSE]
              exact ⟨unhide HN9, (unhide HNR).mono (by omega)⟩
            · rw [unhide HKN]
              exact unhide HN10
          case measure => simp only [intOf]; omega
        · have hzb : (cd != 0) = true := by simpa using hz
          have hzc : (cd == 0) = false := by simpa using hz
          have HMC := HMC3
          have p0 := ((unhide HR7).v).cell (m := 0) rfl
          have p1 := ((unhide HR7).v).cell (m := 1) rfl
          have p2 := ((unhide HR7).v).cell (m := 2) rfl
          have p3 := ((unhide HR7).v).cell (m := 3) rfl
          have p4 := ((unhide HR7).v).cell (m := 4) rfl
          have p5 := ((unhide HR7).v).cell (m := 5) rfl
          have p6 := ((unhide HR7).v).cell (m := 6) rfl
          have p7 := ((unhide HR7).v).cell (m := 7) rfl
          have z0 := (unhide HV27).cell (m := 0) rfl
          have z1 := (unhide HV27).cell (m := 1) rfl
          have z2 := (unhide HV27).cell (m := 2) rfl
          have z3 := (unhide HV27).cell (m := 3) rfl
          have z4 := (unhide HV27).cell (m := 4) rfl
          have z5 := (unhide HV27).cell (m := 5) rfl
          have z6 := (unhide HV27).cell (m := 6) rfl
          have z7 := (unhide HV27).cell (m := 7) rfl
          have zf := (unhide HV27).frozen
          have pf := (unhide HR7).v.frozen
          have vlt := (unhide HV27).lt
          have plt := (unhide HR7).v.lt
          have hne2 : w.heap.size + 2 ≠ b9 := by omega
          have hne3 : b9 ≠ w.heap.size + 2 := by omega
          have hnz : (w.heap.size + 2 == b9) = false := by simpa using hne2
          have HRf := hide (unhide HR7).row
          have HWf := HW7
          clear HR7 HV27
          go_wp2_with fail
          (try rw [Exit.noGoto_ret])
          refine bodyPost_ret (v := .agg (pnV cd (i : Int) W H q n cap s).toArray) (by simp [results, Try.results12, go_sem, pnV, p0, p1, p2, p3, p4, p5, p6, p7, z0, z1, z2, z3, z4, z5, z6, z7, vlt, plt, hne2, hne3]) rfl ?_
          have hne : q ≠ w.heap.size + 2 := by have := (unhide HRf).ge; omega
          have hneb : q ≠ b9 := Ne.symm hq9
          have hle : w.heap.size ≤ w.heap.size + 2 := by omega
          have hle9 : w.heap.size ≤ b9 := by omega
          refine ⟨⟨i, q, cap, ⟨by rw [unhide HML]; exact hii, unhide HGO, fun _ => by rw [unhide HMC]; exact hz⟩, ?_, ?_⟩, ?_⟩
          · rw [unhide HMC, mlB_in (unhide HIL), unhide HKE]
          · rw [unhide HKE]
            refine ((unhide HRf).kept' (fun y hy => ?_)).mono (by omega)
            simp only [Value.ownBlock, Option.some.injEq] at hy
            subst hy
            exact ((Below.heap_setCell _ _ _ _ hne).trans ( (Below.heap_setCell _ _ _ _ hne).trans ( (Below.heap_setCell _ _ _ _ hne).trans ( (Below.heap_setCell _ _ _ _ hne).trans ( (Below.heap_setCell _ _ _ _ hne).trans ( (Below.heap_setCell _ _ _ _ hne).trans ( (Below.heap_setCell _ _ _ _ hne).trans (Below.heap_setCell _ _ _ _ hne)))))))).trans ((Below.heap_setCell _ _ _ _ hneb).trans (Below.heap_setCell _ _ _ _ hneb))
          · exact Below.setCell (Below.setCell (Below.setCell (Below.setCell (Below.setCell (Below.setCell (Below.setCell (Below.setCell ((Below.setCell (Below.setCell (unhide HWf) hle9 _) hle9 _)) hle _) hle _) hle _) hle _) hle _) hle _) hle _) hle _
      · obtain ⟨cd, hcd⟩ : ∃ cd, wc = cd := ⟨_, rfl⟩
        subst hcd
        have hz := hwz
        have hzb : (wc != 0) = true := by simpa using hz
        have hzc : (wc == 0) = false := by simpa using hz
        have HMCw : Hid (mlC P W H r S ms i = wc) := hide (by rw [unhide HMC]; unfold mvCd; rw [if_pos (by rw [unhide HWC]; exact hz)]; exact unhide HWC)
        clear HMC HT5 HG5 HV05 HV15 HZ5 HM5
        have HMC := HMCw
        have p0 := ((unhide HR5).v).cell (m := 0) rfl
        have p1 := ((unhide HR5).v).cell (m := 1) rfl
        have p2 := ((unhide HR5).v).cell (m := 2) rfl
        have p3 := ((unhide HR5).v).cell (m := 3) rfl
        have p4 := ((unhide HR5).v).cell (m := 4) rfl
        have p5 := ((unhide HR5).v).cell (m := 5) rfl
        have p6 := ((unhide HR5).v).cell (m := 6) rfl
        have p7 := ((unhide HR5).v).cell (m := 7) rfl
        have z0 := (unhide HV25).cell (m := 0) rfl
        have z1 := (unhide HV25).cell (m := 1) rfl
        have z2 := (unhide HV25).cell (m := 2) rfl
        have z3 := (unhide HV25).cell (m := 3) rfl
        have z4 := (unhide HV25).cell (m := 4) rfl
        have z5 := (unhide HV25).cell (m := 5) rfl
        have z6 := (unhide HV25).cell (m := 6) rfl
        have z7 := (unhide HV25).cell (m := 7) rfl
        have zf := (unhide HV25).frozen
        have pf := (unhide HR5).v.frozen
        have vlt := (unhide HV25).lt
        have plt := (unhide HR5).v.lt
        have hne2 : w.heap.size + 2 ≠ b9 := by omega
        have hne3 : b9 ≠ w.heap.size + 2 := by omega
        have hnz : (w.heap.size + 2 == b9) = false := by simpa using hne2
        have HRf := hide (unhide HR5).row
        have HWf := HW5
        clear HR5 HV25
        go_wp2_with fail
        (try rw [Exit.noGoto_ret])
        refine bodyPost_ret (v := .agg (pnV wc (i : Int) W H q n cap s).toArray) (by simp [results, Try.results12, go_sem, pnV, p0, p1, p2, p3, p4, p5, p6, p7, z0, z1, z2, z3, z4, z5, z6, z7, vlt, plt, hne2, hne3]) rfl ?_
        have hne : q ≠ w.heap.size + 2 := by have := (unhide HRf).ge; omega
        have hneb : q ≠ b9 := Ne.symm hq9
        have hle : w.heap.size ≤ w.heap.size + 2 := by omega
        have hle9 : w.heap.size ≤ b9 := by omega
        refine ⟨⟨i, q, cap, ⟨by rw [unhide HML]; exact hii, unhide HGO, fun _ => by rw [unhide HMC]; exact hz⟩, ?_, ?_⟩, ?_⟩
        · rw [unhide HMC, mlB_in (unhide HIL), unhide HKE]
        · rw [unhide HKE]
          refine ((unhide HRf).kept' (fun y hy => ?_)).mono (by omega)
          simp only [Value.ownBlock, Option.some.injEq] at hy
          subst hy
          exact ((Below.heap_setCell _ _ _ _ hne).trans ( (Below.heap_setCell _ _ _ _ hne).trans ( (Below.heap_setCell _ _ _ _ hne).trans ( (Below.heap_setCell _ _ _ _ hne).trans ( (Below.heap_setCell _ _ _ _ hne).trans ( (Below.heap_setCell _ _ _ _ hne).trans ( (Below.heap_setCell _ _ _ _ hne).trans (Below.heap_setCell _ _ _ _ hne)))))))).trans ((Below.heap_setCell _ _ _ _ hneb).trans (Below.heap_setCell _ _ _ _ hneb))
        · exact Below.setCell (Below.setCell (Below.setCell (Below.setCell (Below.setCell (Below.setCell (Below.setCell (Below.setCell ((Below.setCell (Below.setCell (unhide HWf) hle9 _) hle9 _)) hle _) hle _) hle _) hle _) hle _) hle _) hle _) hle _
    · have lz : decide ((i : Int) < (m : Int)) = false := decide_eq_false (by omega)
      obtain rfl : i = m := by omega
      have p0 := ((unhide HRi).v).cell (m := 0) rfl
      have p1 := ((unhide HRi).v).cell (m := 1) rfl
      have p2 := ((unhide HRi).v).cell (m := 2) rfl
      have p3 := ((unhide HRi).v).cell (m := 3) rfl
      have p4 := ((unhide HRi).v).cell (m := 4) rfl
      have p5 := ((unhide HRi).v).cell (m := 5) rfl
      have p6 := ((unhide HRi).v).cell (m := 6) rfl
      have p7 := ((unhide HRi).v).cell (m := 7) rfl
      have z0 := (unhide HV2i).cell (m := 0) rfl
      have z1 := (unhide HV2i).cell (m := 1) rfl
      have z2 := (unhide HV2i).cell (m := 2) rfl
      have z3 := (unhide HV2i).cell (m := 3) rfl
      have z4 := (unhide HV2i).cell (m := 4) rfl
      have z5 := (unhide HV2i).cell (m := 5) rfl
      have z6 := (unhide HV2i).cell (m := 6) rfl
      have z7 := (unhide HV2i).cell (m := 7) rfl
      have zf := (unhide HV2i).frozen
      have vlt := (unhide HV2i).lt
      have plt := (unhide HRi).v.lt
      have HRf := hide (unhide HRi).row
      have hne3 : b9 ≠ w.heap.size + 2 := by omega
      go_wp2_with fail
      (try rw [Exit.noGoto_ret])
      refine bodyPost_ret (v := .agg (pnV 0 0 W H q n cap s).toArray) (by simp [results, Try.results12, go_sem, pnV, p0, p1, p2, p3, p4, p5, p6, p7, z0, z1, z2, z3, z4, z5, z6, z7, vlt, plt, hne3]) rfl ?_
      have hne : q ≠ w.heap.size + 2 := by have := (unhide HRf).ge; omega
      have hle : w.heap.size ≤ w.heap.size + 2 := by omega
      refine ⟨⟨i, q, cap, ⟨by rw [unhide HML]; exact Nat.le_refl _, unhide HGO, fun h9 => absurd h9 (by rw [unhide HML]; omega)⟩, ?_, ?_⟩, ?_⟩
      · have e1 : mlC P W H r S ms i = 0 := by have := mlC_end (P := P) (W := W) (H := H) (r := r) (S := S) (ms := ms); rw [unhide HML] at this; exact this
        have e2 : mlB ms i = 0 := by have := mlB_end (ms := ms); rw [unhide HML] at this; exact this
        rw [e1, e2, unhide HKE]
      · rw [unhide HKE]
        refine ((unhide HRf).kept' (fun y hy => ?_)).mono (by omega)
        simp only [Value.ownBlock, Option.some.injEq] at hy
        subst hy
        exact (Below.heap_setCell _ _ _ _ hne).trans ( (Below.heap_setCell _ _ _ _ hne).trans ( (Below.heap_setCell _ _ _ _ hne).trans ( (Below.heap_setCell _ _ _ _ hne).trans ( (Below.heap_setCell _ _ _ _ hne).trans ( (Below.heap_setCell _ _ _ _ hne).trans ( (Below.heap_setCell _ _ _ _ hne).trans (Below.heap_setCell _ _ _ _ hne)))))))
      · exact Below.setCell (Below.setCell (Below.setCell (Below.setCell (Below.setCell (Below.setCell (Below.setCell (Below.setCell (unhide HWi) hle _) hle _) hle _) hle _) hle _) hle _) hle _) hle _
end Go.Proofs.Ytjhldjojkaphkaa

namespace Go.Proofs.Ytjhldjojkaphkaa
open Go.ChangeShapes Go.WideShapes Go.ChangeAt Go.RowKit
set_option linter.unusedVariables false
set_option linter.unusedSimpArgs false

theorem mvE_one (s : Bool) (a b c : Int) (w : World) : Calls Try.prog 60 #[.agg #[.bool s, .int .i64 a, .int .i64 b, .int .i64 c], .agg #[.bool s, .int .i64 a, .int .i64 b, .int .i64 c]] w fun e w' => e = .returned (.bool true) ∧ Below w.heap.size w w' := by
  cases s <;>
  · go_enter Try.func60, Try.ntmps60
    go_wp2
    go_ret
    exact ⟨rfl, ba (ba (Below.refl _ _) _) _⟩
theorem Mrow.form {w : World} {B n : Nat} {v : Value} {ms : List Mve} (h : Mrow w B v n ms) : ∃ (u : Option Addr) (cap : Nat), v = .slice u n cap ∧ (n ≠ 0 → u = some ⟨bo u, 0, none⟩ ∧ B ≤ bo u ∧ bo u < w.heap.size) := by
  rcases h.2 with ⟨h1, h2⟩ | ⟨g, cap, cur, hv, hB, hh, r⟩
  · subst h2
    exact ⟨none, 0, h1, fun h => absurd rfl h⟩
  · exact ⟨_, cap, hv, fun _ => ⟨rfl, hB, (Array.getElem?_eq_some_iff.1 hh).1⟩⟩
theorem Mrow.bel {w w' : World} {B n : Nat} {v : Value} {ms : List Mve} (h : Mrow w B v n ms) (hb : Below w.heap.size w w') : Mrow w' B v n ms := Mvs.bel h hb
set_option maxHeartbeats 1000000 in
theorem mv_same (u v : Option Addr) (B B' n cu cv : Nat) (ms : List Mve) (w : World) (hn : n ≤ 1844674407370955161)
    (hu : Mrow w B (.slice u n cu) n ms) (hv : Mrow w B' (.slice v n cv) n ms) :
    Calls Try.prog 23 #[.slice u n cu, .slice v n cv] w fun e w' => e = .returned (.bool true) ∧ Below w.heap.size w w' := by
  have HL := hide hu.len
  have HU := hide hu
  have HV := hide hv
  have HFU : Hid (n ≠ 0 → u = some ⟨bo u, 0, none⟩) := hide (by
    obtain ⟨u', c', h1, h2⟩ := hu.form
    cases h1
    exact fun h => (h2 h).1)
  have HFV : Hid (n ≠ 0 → v = some ⟨bo v, 0, none⟩) := hide (by
    obtain ⟨u', c', h1, h2⟩ := hv.form
    cases h1
    exact fun h => (h2 h).1)
  clear hu hv
  go_enter Try.func23, Try.ntmps23
  go_wp2
  go_loopw [5] (fun s W => ∃ i : Nat, s = .int .i64 (i : Int) ∧ i ≤ n ∧ Below w.heap.size w W) (fun s _ => n - (intOf s).toNat)
  case atStart => exact ⟨0, rfl, Nat.zero_le _, Below.refl _ _⟩
  case round =>
    obtain ⟨i, rfl, hi, hw⟩ := hrel
    have HW := hide hw
    clear hw
    by_cases h : i < n
    · have i1 : (i : Int) < (n : Int) := by omega
      have i0 : (0 : Int) ≤ (i : Int) := Int.natCast_nonneg _
      have iz : decide ((i : Int) < (n : Int)) = true := decide_eq_true i1
      obtain ⟨⟨s, a, b, c⟩, hx⟩ := get_some (unhide HL) h
      have eu := unhide HFU (by omega)
      have ev := unhide HFV (by omega)
      generalize bo u = p at eu
      generalize bo v = q at ev
      subst eu
      subst ev
      obtain ⟨k0, k1, k2, k3⟩ := ((unhide HU).bel (unhide HW)).at hx
      obtain ⟨l0, l1, l2, l3⟩ := ((unhide HV).bel (unhide HW)).at hx
      simp only at k0 k1 k2 k3 l0 l1 l2 l3
      clear hx
      go_wp2_with fail
      go_region_held3 (fun wx => wx.cell? ⟨p, i * 4, none⟩ = some (.bool s) ∧ wx.cell? ⟨p, i * 4 + 1, none⟩ = some (.int .i64 a) ∧ wx.cell? ⟨p, i * 4 + 2, none⟩ = some (.int .i64 b) ∧ wx.cell? ⟨p, i * 4 + 3, none⟩ = some (.int .i64 c) ∧ wx.cell? ⟨q, i * 4, none⟩ = some (.bool s) ∧ wx.cell? ⟨q, i * 4 + 1, none⟩ = some (.int .i64 a) ∧ wx.cell? ⟨q, i * 4 + 2, none⟩ = some (.int .i64 b) ∧ wx.cell? ⟨q, i * 4 + 3, none⟩ = some (.int .i64 c))
        (simp (maxDischargeDepth := 12) [go_sem, le1, lt1, *])
        (first
        | (go_at_call 60; refine (mvE_one _ _ _ _ _).mono ?_; rintro e w' ⟨rfl, hb⟩; have HB := hide hb; have y0 := keep1 hb (b := p) (o := _) (v := .bool s) k0; have y1 := keep1 hb (b := p) (o := _) (v := .int .i64 a) k1; have y2 := keep1 hb (b := p) (o := _) (v := .int .i64 b) k2; have y3 := keep1 hb (b := p) (o := _) (v := .int .i64 c) k3; have z0 := keep1 hb (b := q) (o := _) (v := .bool s) l0; have z1 := keep1 hb (b := q) (o := _) (v := .int .i64 a) l1; have z2 := keep1 hb (b := q) (o := _) (v := .int .i64 b) l2; have z3 := keep1 hb (b := q) (o := _) (v := .int .i64 c) l3; clear hb))
      all_goals
        go_wp2_with fail
        go_roundw
        case rel => exact ⟨i + 1, by simp, h, by repeat (first | exact unhide HW | refine bc ?_ (unhide HB) | refine Below.drew ?_)⟩
        case measure => simp only [intOf]; omega
    · have i1 : ¬ (i : Int) < (n : Int) := by omega
      have iz : decide ((i : Int) < (n : Int)) = false := decide_eq_false i1
      go_wp2_with fail
      go_ret
      exact ⟨rfl, unhide HW⟩
theorem Mrow.set {w : World} {B g n cap : Nat} {ms : List Mve} (h : Mrow w B (.slice (some ⟨g, 0, none⟩) n cap) n ms) (i : Nat) (hi : i < n) (l : Mve) :
    Mrow ((((w.setCell ⟨g, i * 4, none⟩ (.bool l.f)).setCell ⟨g, i * 4 + 1, none⟩ (.int .i64 l.x)).setCell ⟨g, i * 4 + 2, none⟩ (.int .i64 l.y)).setCell ⟨g, i * 4 + 3, none⟩ (.int .i64 l.z)) B (.slice (some ⟨g, 0, none⟩) n cap) n (ms.set i l) := by
  unfold Mrow
  rw [flat4_set _ _ _ (by rw [h.len]; exact hi)]
  exact (((Mvs.set h _ _).set _ _).set _ _).set _ _
set_option maxHeartbeats 1000000 in
theorem mv_markR (B n : Nat) (v : Value) (ms : List Mve) (k : Int) (w : World) (hn : n ≤ 1048576) (k0 : 0 ≤ k) (k1 : k ≤ 8000000) (hr : Mrow w B v n ms) :
    Calls Try.prog 26 #[v, .int .i64 k] w fun e w' => e = .returned (.int .i64 (k + 4 * (n : Int))) ∧ Mrow w' B v n (mksM k n) ∧ Below B w w' := by
  by_cases hz : n = 0
  · subst hz
    obtain ⟨u, cap, rfl, _⟩ := hr.form
    have HR := hide hr
    have hml := hr.len
    have iz : decide ((0 : Int) < ((0 : Nat) : Int)) = false := by decide
    clear hr
    go_enter Try.func26, Try.ntmps26
    go_wp2
    go_loopw [1, 5] (fun s t W => s = .int .i64 k ∧ t = .int .i64 0 ∧ W = w) (fun _ s _ => 0)
    case atStart => exact ⟨rfl, rfl, rfl⟩
    case round =>
      obtain ⟨rfl, rfl, rfl⟩ := hrel
      go_wp2_with fail
      go_ret
      refine ⟨ret_int (by simp), ?_, Below.refl _ _⟩
      have h1 := unhide HR
      have : ms = [] := List.eq_nil_of_length_eq_zero hml
      subst this
      exact h1
  · obtain ⟨g, cap, rfl, hB, hg⟩ := hr.full hz
    have HL := hide hr.len
    have HR0 := hide hr
    clear hr
    go_enter Try.func26, Try.ntmps26
    go_wp2_with fail
    go_loopw [1, 5] (fun s t W => ∃ i : Nat, s = .int .i64 (k + 4 * (i : Int)) ∧ t = .int .i64 (i : Int) ∧ i ≤ n ∧ Mrow W B (.slice (some ⟨g, 0, none⟩) n cap) n (overM ms k i) ∧ Below B w W) (fun _ s _ => n - (intOf s).toNat)
    case atStart => exact ⟨0, by simp, rfl, Nat.zero_le _, by simpa [overM, mksM] using unhide HR0, Below.refl _ _⟩
    case round =>
      obtain ⟨i, rfl, rfl, hi, hb, hw⟩ := hrel
      have HB := hide hb
      have HW := hide hw
      clear hb hw
      by_cases h : i < n
      · have i1 : (i : Int) < (n : Int) := by omega
        have i0 : (0 : Int) ≤ (i : Int) := Int.natCast_nonneg _
        have iz : decide ((i : Int) < (n : Int)) = true := decide_eq_true i1
        obtain ⟨m, hx⟩ := get_some (unhide HL) h
        obtain ⟨c0, c1, c2, c3⟩ := (unhide HB).at (overM_at k hx)
        have fz : ∀ o, wr.frozen? ⟨g, o, none⟩ = false := Mvs.frz (unhide HB)
        have HST := hide (overM_step (ms := ms) k (i := i) (by rw [unhide HL]; exact h))
        obtain ⟨f, x, y, z⟩ := m
        simp only at c0 c1 c2 c3
        clear hx
        obtain ⟨kk, hkk⟩ : ∃ kk : Int, k + 4 * (i : Int) = kk := ⟨_, rfl⟩
        rw [hkk] at HST ⊢
        have kk0 : 0 ≤ kk := by omega
        have kk1 : kk ≤ 12194304 := by omega
        have hm0 : 0 ≤ kk.tmod 3 := Int.tmod_nonneg _ kk0
        have hm1 : kk.tmod 3 < 3 := Int.tmod_lt_of_pos _ (by omega)
        have HKK := hide hkk
        have HMK : Hid (mkM kk = ⟨(kk % 3 == 0), kk + 1, kk + 2, kk + 3⟩) := hide rfl
        have wm : IntKind.i64.wrap (kk.tmod 3) = kk.tmod 3 := Go.IntWalk.i64_in _ ⟨by omega, by omega⟩
        obtain ⟨tm, htm⟩ : ∃ tm : Int, kk.tmod 3 = tm := ⟨_, rfl⟩
        have w1 : IntKind.i64.wrap (kk + 1) = kk + 1 := Go.IntWalk.i64_in _ ⟨by omega, by omega⟩
        have w2 : IntKind.i64.wrap (kk + 1 + 1) = kk + 2 := (Go.IntWalk.i64_in _ ⟨by omega, by omega⟩).trans (by omega)
        have w3 : IntKind.i64.wrap (kk + 2 + 1) = kk + 3 := (Go.IntWalk.i64_in _ ⟨by omega, by omega⟩).trans (by omega)
        have w4 : IntKind.i64.wrap (kk + 3 + 1) = kk + 4 := (Go.IntWalk.i64_in _ ⟨by omega, by omega⟩).trans (by omega)
        clear hkk htm
        go_wp2_with fail
        go_roundw
        case rel =>
          refine ⟨i + 1, by have := unhide HKK; simp only [Value.int.injEq, true_and]; omega, by simp, h, ?_, ?_⟩
          · rw [← unhide HST, unhide HMK]
            exact (unhide HB).set i h ⟨(kk % 3 == 0), kk + 1, kk + 2, kk + 3⟩
          · exact Below.setCell (Below.setCell (Below.setCell (Below.setCell (unhide HW) hB _) hB _) hB _) hB _
        case measure => simp only [intOf]; omega
      · have iz : decide ((i : Int) < (n : Int)) = false := decide_eq_false (by omega)
        have en : i = n := by omega
        subst en
        go_wp2_with fail
        go_ret
        refine ⟨rfl, ?_, unhide HW⟩
        have h1 := unhide HB
        unfold overM at h1
        rw [List.drop_eq_nil_of_le (by rw [unhide HL]; omega), List.append_nil] at h1
        exact h1
set_option maxHeartbeats 1000000 in
theorem mv_held (u : Option Addr) (B n cu : Nat) (k : Int) (w : World) (hn : n ≤ 1048576) (k0 : 0 ≤ k) (k1 : k ≤ 8000000) (hr : Mrow w B (.slice u n cu) n (mksM k n)) :
    Calls Try.prog 27 #[.slice u n cu, .int .i64 k] w fun e w' => e = .returned (.int .i64 (k + 4 * (n : Int))) ∧ Same w w' := by
  have HU := hide hr
  have HFU : Hid (n ≠ 0 → u = some ⟨bo u, 0, none⟩) := hide (by
    obtain ⟨u', c', h1, h2⟩ := hr.form
    cases h1
    exact fun h => (h2 h).1)
  clear hr
  go_enter Try.func27, Try.ntmps27
  go_wp2
  go_loopw [1, 5] (fun s t W => ∃ i : Nat, s = .int .i64 (k + 4 * (i : Int)) ∧ t = .int .i64 (i : Int) ∧ i ≤ n ∧ Same w W) (fun _ s _ => n - (intOf s).toNat)
  case atStart => exact ⟨0, by simp, rfl, Nat.zero_le _, Same.refl _⟩
  case round =>
    obtain ⟨i, rfl, rfl, hi, hw⟩ := hrel
    have HW := hide hw
    clear hw
    by_cases h : i < n
    · have i1 : (i : Int) < (n : Int) := by omega
      have i0 : (0 : Int) ≤ (i : Int) := Int.natCast_nonneg _
      have iz : decide ((i : Int) < (n : Int)) = true := decide_eq_true i1
      have eu := unhide HFU (by omega)
      generalize bo u = p at eu
      subst eu
      obtain ⟨c0, c1, c2, c3⟩ := ((unhide HU).bel (unhide HW).bel).at (mksM_at k n i h)
      unfold mkM at c0 c1 c2 c3
      simp only at c0 c1 c2 c3
      obtain ⟨kk, hkk⟩ : ∃ kk : Int, k + 4 * (i : Int) = kk := ⟨_, rfl⟩
      rw [hkk] at c0 c1 c2 c3 ⊢
      have kk0 : 0 ≤ kk := by omega
      have kk1 : kk ≤ 12194304 := by omega
      have hm0 : 0 ≤ kk.tmod 3 := Int.tmod_nonneg _ kk0
      have hm1 : kk.tmod 3 < 3 := Int.tmod_lt_of_pos _ (by omega)
      have hmt : kk % 3 = kk.tmod 3 := by rw [Int.tmod_eq_emod_of_nonneg kk0]
      have HKK := hide hkk
      have w1 : IntKind.i64.wrap (kk + 1) = kk + 1 := Go.IntWalk.i64_in _ ⟨by omega, by omega⟩
      have w2 : IntKind.i64.wrap (kk + 1 + 1) = kk + 2 := (Go.IntWalk.i64_in _ ⟨by omega, by omega⟩).trans (by omega)
      have w3 : IntKind.i64.wrap (kk + 2 + 1) = kk + 3 := (Go.IntWalk.i64_in _ ⟨by omega, by omega⟩).trans (by omega)
      have w4 : IntKind.i64.wrap (kk + 3 + 1) = kk + 4 := (Go.IntWalk.i64_in _ ⟨by omega, by omega⟩).trans (by omega)
      clear hkk
      by_cases hz : kk % 3 = 0
      · have z1 : (kk % 3 == 0) = true := by rw [hz]; rfl
        have z2 : (kk.tmod 3 == 0) = true := by rw [← hmt]; exact z1
        rw [z1] at c0
        go_wp2_with fail
        go_roundw
        case rel => exact ⟨i + 1, by have := unhide HKK; simp only [Value.int.injEq, true_and]; omega, by simp, h, by repeat (first | exact unhide HW | refine Same.drew ?_)⟩
        case measure => simp only [intOf]; omega
      · have z1 : (kk % 3 == 0) = false := by simpa using hz
        have z2 : (kk.tmod 3 == 0) = false := by rw [← hmt]; exact z1
        rw [z1] at c0
        go_wp2_with fail
        go_roundw
        case rel => exact ⟨i + 1, by have := unhide HKK; simp only [Value.int.injEq, true_and]; omega, by simp, h, by repeat (first | exact unhide HW | refine Same.drew ?_)⟩
        case measure => simp only [intOf]; omega
    · have i1 : ¬ (i : Int) < (n : Int) := by omega
      have iz : decide ((i : Int) < (n : Int)) = false := decide_eq_false i1
      have en : i = n := by omega
      subst en
      go_wp2_with fail
      go_ret
      exact ⟨rfl, unhide HW⟩
end Go.Proofs.Ytjhldjojkaphkaa

namespace Go.Proofs.Ytjhldjojkaphkaa
open Go.ChangeShapes Go.WideShapes Go.ChangeAt Go.RowKit
set_option linter.unusedVariables false
set_option linter.unusedSimpArgs false

theorem wp_append_new {P : Program} (w : World) {o : Oper} {a : Act} {K : Act → World → Prop} {Q : Exit → Act → World → Prop} (s x : Operand) (t : TypeId)
    (ho : o.op = .call { callee := .builtin .append, args := #[s, x], argTypes := #[t, t] })
    (base : Nat) (e : TypeId) (i : TypeInfo) (z : Value) (size bytes : Nat) (ht : P.underlying t = some (.slice e)) (hi : P.info? e = some i) (hz : i.zero = some z)
    (hsize : i.size = size) (hby : i.bytes = bytes) (hzs : z.cells.size = size) (hsz : 0 < size)
    (v : Value) (n : Nat) (xs : List Value) (hs : a.eval s = v) (hown : w.ownsRow base e size v n xs)
    (ad : Addr) (m c : Nat) (news : List Value) (hx : a.eval x = .slice (some ad) m c) (hl : news.length = m * size) (hnews : ∀ j u, news[j]? = some u → w.cell? (ad.add j) = some u) (h1 : ∀ u ∈ news, u.oneCell' = true)
    (h63 : n + m ≤ maxLen) (hbytes : (n + m) * bytes ≤ 140737488355328) (hbase : base ≤ w.heap.size)
    (h : ∀ v' w', w'.ownsRow base e size v' (n + m) (xs ++ news) → w.grownBy w' v.ownBlock → (v' = .slice none 0 0 ↔ v = .slice none 0 0 ∧ m = 0) → NewBlk w v v' → K (a.put o.dst v') w') : o.wp P a w K Q := by
  obtain ⟨v', w', hr, h2, h3, h4⟩ := run_append_own (P := P) w base t o.type e i z size bytes ht hi hz hsize hby hzs hsz v n xs hown ad m c news hl hnews h1 h63 hbytes hbase
  have h5 := append_new (P := P) w base t o.type e i z size bytes ht hi hz hsize hby hzs hsz v n xs hown ad m c news hl hnews h1 h63 hbytes v' w' hr
  unfold Oper.wp execOp
  simp only [ho, resolve, invoke, builtin, Sem.run_bind, Sem.run_pure, Result.andThen_ok, List.map_toArray, List.map_cons, List.map_nil, hs, hx, hr]
  exact h v' w' h2 h3 h4 h5
/-- behind an append to a row of moves -/
structure Apz (V W : World) (B : Nat) (ov nv : Value) (m : Nat) (cs : List Value) : Prop where
  row : Mvs W B nv m cs
  new : ∀ g, nv.ownBlock = some g → ov.ownBlock = some g ∨ V.heap.size ≤ g
  keep : ∀ b, b < V.heap.size → ov.ownBlock ≠ some b → W.heap[b]? = V.heap[b]?
  bel : Below B V W
theorem Apz.of {V W w1 : World} {B m k : Nat} {ov nv : Value} {cs ns : List Value} (hb : Below V.heap.size V W) (hB : B ≤ V.heap.size) (hr : Mvs W B ov m cs) (hown : w1.ownsRow B 65 4 nv (m + k) (cs ++ ns)) (hg : W.grownBy w1 ov.ownBlock) (hn : NewBlk W ov nv) : Apz V w1 B ov nv (m + k) (cs ++ ns) := by
  refine ⟨hown, fun g h => (hn g h).imp id (fun h => Nat.le_trans hb.size h), fun b h1 h2 => (hg.block b (Nat.lt_of_lt_of_le h1 hb.size) h2.symm).trans (hb.block b h1), ?_⟩
  exact (hb.mono hB).grown hg (Nat.le_trans hB hb.size) (fun j hj => (hr.lt j hj).1)
/-- the model's run: its part and tool, the tops that are left, the row it was in last, its moves -/
structure Zm (X : World) (B gb gt gl n ct W H r pc : Nat) (pu : Option Addr) (s : Zs) : Prop where
  out : ∃ v, vb X gb 77 [.int .i64 (W : Int), .int .i64 (H : Int), .slice pu n pc, .int .i64 (r : Int), .slice (some ⟨gt, 0, none⟩) n ct, .int .i64 (zoy s.ps s.ps.length), v] ∧ Mvs X B v (1 + 4 * s.ps.length) (zcs s.ps s.ps.length) ∧ (∀ g, v.ownBlock = some g → g ≠ gb ∧ g ≠ gt ∧ g ≠ gl)
  tops : Row X B 3 1 (.slice (some ⟨gt, 0, none⟩) n ct) n s.T
theorem Zm.bel {X X' : World} {B gb gt gl n ct W H r pc : Nat} {pu : Option Addr} {s : Zs} (h : Zm X B gb gt gl n ct W H r pc pu s) (hb : Below X.heap.size X X') : Zm X' B gb gt gl n ct W H r pc pu s := by
  obtain ⟨v, h1, h2, h3⟩ := h.out
  exact ⟨⟨v, h1.bel hb, h2.kept (fun g hg => hb.block g (h2.lt g hg).2), h3⟩, h.tops.below hb⟩
theorem any_take (f : Nat → Bool) {cs : List Nat} {i c : Nat} (h : cs[i]? = some c) : (cs.take (i + 1)).any f = ((cs.take i).any f || f c) := by
  rw [List.take_add_one, h]
  simp
theorem any_hi (T : List Int) (cs : List Nat) (z : Int) (hz : 0 ≤ z) : cs.any (fun c => decide (z < tp T c)) = !decide (hi T cs ≤ z) := by
  rw [Bool.eq_iff_iff]
  simp only [List.any_eq_true, decide_eq_true_eq, Bool.not_eq_true', decide_eq_false_iff_not]
  rw [hi_le]
  constructor
  · rintro ⟨c, h1, h2⟩ ⟨_, h3⟩
    have := h3 c h1
    omega
  · intro h
    apply Classical.byContradiction
    intro h2
    exact h ⟨hz, fun i hi => by
      apply Classical.byContradiction
      intro h4
      exact h2 ⟨i, hi, by omega⟩⟩
end Go.Proofs.Ytjhldjojkaphkaa

namespace Go.Proofs.Ytjhldjojkaphkaa
open Go.ChangeShapes Go.WideShapes Go.ChangeAt Go.RowKit
set_option linter.unusedVariables false
set_option linter.unusedSimpArgs false

theorem mv_cells {W : World} {g : Nat} {cs : List Value} (h : vb W g 65 cs) : ∀ (j : Nat) (u : Value), cs[j]? = some u → W.cell? ((⟨g, 0, none⟩ : Addr).add j) = some u := by
  intro j u hj
  rw [add_none, Nat.zero_add]
  exact h.cell hj
theorem Mvs.belo {w w' : World} {B n : Nat} {v : Value} {cs : List Value} (h : Mvs w B v n cs) (hb : Below w.heap.size w w') : Mvs w' B v n cs := h.kept (fun g hg => hb.block g (h.lt g hg).2)
theorem Mvs.slc {w : World} {B n : Nat} {v : Value} {cs : List Value} (h : Mvs w B v n cs) (hn : n ≠ 0) : ∃ g cap, v = .slice (some ⟨g, 0, none⟩) n cap := by
  rcases h.2 with ⟨_, h1⟩ | ⟨g, cap, cur, hv, r⟩
  · exact absurd h1 hn
  · exact ⟨g, cap, hv⟩
noncomputable def reg43 (id : Nat) : Go.Code := match Try.f43.body with | some c => (regOf id c).getD .skip | none => .skip
set_option maxHeartbeats 4000000 in
set_option maxRecDepth 100000 in
theorem st11 {s4 s5 s6 s7 s8 s9 s10 s11 s12 s13 s14 s15 s16 s17 s18 s19 s20 s21 s22 s23 s24 s25 s26 s27 s28 s29 s30 s31 s32 s33 s34 s35 s36 s37 s38 s39 s40 s41 s42 s43 s44 s45 s46 s47 s48 s49 s50 s51 s52 s53 s54 s55 s56 s57 s58 s59 s60 s61 s62 s63 s64 s65 s66 s67 s68 s69 s70 s71 s72 s73 s74 s75 s76 s77 s78 s79 s80 s81 s82 s83 s84 s85 s86 s87 s88 s89 s90 s91 s92 s93 s94 s95 s96 s97 s98 s99 s100 s101 s102 s103 s104 s105 s106 s107 s108 s109 : Value} {gb B m : Nat} {x y z oy : Int} {ov : Value} {cs : List Value} {V : World} {K_ : Act → World → Prop} (hm : m ≤ 2000) (hBV : B ≤ V.heap.size) (hgb : gb < V.heap.size) (hne : ov.ownBlock ≠ some gb) (hfz : V.frozen? ⟨gb, 6, none⟩ = false)
    (H5 : Hid (V.cell? ⟨gb, 5, none⟩ = some (.int .i64 oy))) (H6 : Hid (V.cell? ⟨gb, 6, none⟩ = some ov)) (HR : Hid (Mvs V B ov m cs))
    (hQ : ∀ (sb : Nat) (nv : Value) (W1 : World), Apz V W1 B ov nv (m + 4) (cs ++ mv4 x oy y z) → K_ { tmps := #[.pointer (some ⟨gb, 0, none⟩), .int .i64 (x), .int .i64 (y), .int .i64 (z), s4, s5, s6, s7, s8, s9, s10, s11, s12, s13, s14, s15, s16, s17, s18, s19, s20, s21, s22, s23, s24, s25, s26, s27, s28, s29, s30, s31, s32, s33, s34, s35, s36, s37, s38, s39, s40, s41, s42, s43, s44, s45, s46, s47, s48, s49, s50, s51, s52, s53, s54, s55, s56, s57, s58, s59, s60, s61, s62, s63, s64, s65, s66, s67, s68, s69, s70, s71, s72, s73, s74, s75, s76, s77, s78, s79, s80, .pointer (some ⟨gb, 0, none⟩), .pointer (some ⟨gb, 0, none⟩), .pointer (some ⟨gb, 0, none⟩), .pointer (some ⟨gb, 6, none⟩), ov, .int .i64 (x), .pointer (some ⟨gb, 0, none⟩), .pointer (some ⟨gb, 0, none⟩), .pointer (some ⟨gb, 5, none⟩), .int .i64 (oy), .agg #[.bool true, .int .i64 (x), .int .i64 (oy), .int .i64 (24)], .int .i64 (x), .int .i64 (y), .agg #[.bool true, .int .i64 (x), .int .i64 (y), .int .i64 (24)], .int .i64 (x), .int .i64 (y), .int .i64 (z), .agg #[.bool false, .int .i64 (x), .int .i64 (y), .int .i64 (z)], .int .i64 (x), .int .i64 (y), .agg #[.bool true, .int .i64 (x), .int .i64 (y), .int .i64 (24)], .slice (some ⟨sb, 0, none⟩) 4 4, nv, .pointer (some ⟨gb, 0, none⟩), .pointer (some ⟨gb, 6, none⟩), s106, s107, s108, s109], defers := [] } (W1.setCell ⟨gb, 6, none⟩ nv)) :
    Go.Code.wp Try.prog (reg43 11) (Only K_) { tmps := #[.pointer (some ⟨gb, 0, none⟩), .int .i64 (x), .int .i64 (y), .int .i64 (z), s4, s5, s6, s7, s8, s9, s10, s11, s12, s13, s14, s15, s16, s17, s18, s19, s20, s21, s22, s23, s24, s25, s26, s27, s28, s29, s30, s31, s32, s33, s34, s35, s36, s37, s38, s39, s40, s41, s42, s43, s44, s45, s46, s47, s48, s49, s50, s51, s52, s53, s54, s55, s56, s57, s58, s59, s60, s61, s62, s63, s64, s65, s66, s67, s68, s69, s70, s71, s72, s73, s74, s75, s76, s77, s78, s79, s80, s81, s82, s83, s84, s85, s86, s87, s88, s89, s90, s91, s92, s93, s94, s95, s96, s97, s98, s99, s100, s101, s102, s103, s104, s105, s106, s107, s108, s109], defers := [] } V := by
  have HQ := hide hQ
  clear hQ
  obtain ⟨iP, hi1, hy0, hy1, hy2⟩ := info_parts mv65
  conv => arg 2; whnf
  refine wp_region_inv (fun Lb A W => ∃ (u0 u1 u2 u3 u4 u5 u6 u7 u8 u9 u10 u11 u12 u13 u14 u15 u16 u17 u18 u19 u20 u21 u22 u23 u24 u25 : Bool) (sb : Nat) (nv : Value), Lb = #[u0, u1, u2, u3, u4, u5, u6, u7, u8, u9, u10, u11, u12, u13, u14, u15, u16, u17, u18, u19, u20, u21, u22, u23, u24, u25] ∧ A = ({ tmps := #[.pointer (some ⟨gb, 0, none⟩), .int .i64 (x), .int .i64 (y), .int .i64 (z), s4, s5, s6, s7, s8, s9, s10, s11, s12, s13, s14, s15, s16, s17, s18, s19, s20, s21, s22, s23, s24, s25, s26, s27, s28, s29, s30, s31, s32, s33, s34, s35, s36, s37, s38, s39, s40, s41, s42, s43, s44, s45, s46, s47, s48, s49, s50, s51, s52, s53, s54, s55, s56, s57, s58, s59, s60, s61, s62, s63, s64, s65, s66, s67, s68, s69, s70, s71, s72, s73, s74, s75, s76, s77, s78, s79, s80, (bif u0 then .pointer (some ⟨gb, 0, none⟩) else s81), (bif u1 then .pointer (some ⟨gb, 0, none⟩) else s82), (bif u2 then .pointer (some ⟨gb, 0, none⟩) else s83), (bif u3 then .pointer (some ⟨gb, 6, none⟩) else s84), (bif u4 then ov else s85), (bif u5 then .int .i64 (x) else s86), (bif u6 then .pointer (some ⟨gb, 0, none⟩) else s87), (bif u7 then .pointer (some ⟨gb, 0, none⟩) else s88), (bif u8 then .pointer (some ⟨gb, 5, none⟩) else s89), (bif u9 then .int .i64 (oy) else s90), (bif u10 then .agg #[.bool true, .int .i64 (x), .int .i64 (oy), .int .i64 (24)] else s91), (bif u11 then .int .i64 (x) else s92), (bif u12 then .int .i64 (y) else s93), (bif u13 then .agg #[.bool true, .int .i64 (x), .int .i64 (y), .int .i64 (24)] else s94), (bif u14 then .int .i64 (x) else s95), (bif u15 then .int .i64 (y) else s96), (bif u16 then .int .i64 (z) else s97), (bif u17 then .agg #[.bool false, .int .i64 (x), .int .i64 (y), .int .i64 (z)] else s98), (bif u18 then .int .i64 (x) else s99), (bif u19 then .int .i64 (y) else s100), (bif u20 then .agg #[.bool true, .int .i64 (x), .int .i64 (y), .int .i64 (24)] else s101), (bif u21 then .slice (some ⟨sb, 0, none⟩) 4 4 else s102), (bif u22 then nv else s103), (bif u23 then .pointer (some ⟨gb, 0, none⟩) else s104), (bif u24 then .pointer (some ⟨gb, 6, none⟩) else s105), s106, s107, s108, s109], defers := [] } : Act) ∧ (u22 = false → Below V.heap.size V W) ∧ (u21 = true → u22 = false → V.heap.size ≤ sb ∧ vb W sb 65 (mv4 x oy y z)) ∧ (u22 = true → u25 = false → Apz V W B ov nv (m + 4) (cs ++ mv4 x oy y z)) ∧ (u25 = true → ∃ W1, Apz V W1 B ov nv (m + 4) (cs ++ mv4 x oy y z) ∧ W = W1.setCell ⟨gb, 6, none⟩ nv) ∧ (u2 = true → u1 = true) ∧ (u3 = true → u2 = true) ∧ (u4 = true → u3 = true) ∧ (u7 = true → u6 = true) ∧ (u8 = true → u7 = true) ∧ (u9 = true → u8 = true) ∧ (u10 = true → u5 = true ∧ u9 = true) ∧ (u13 = true → u11 = true ∧ u12 = true) ∧ (u17 = true → u14 = true ∧ u15 = true ∧ u16 = true) ∧ (u20 = true → u18 = true ∧ u19 = true) ∧ (u21 = true → u10 = true ∧ u13 = true ∧ u17 = true ∧ u20 = true) ∧ (u22 = true → u4 = true ∧ u21 = true) ∧ (u23 = true → u0 = true) ∧ (u24 = true → u23 = true) ∧ (u25 = true → u0 = true ∧ u1 = true ∧ u2 = true ∧ u3 = true ∧ u4 = true ∧ u5 = true ∧ u6 = true ∧ u7 = true ∧ u8 = true ∧ u9 = true ∧ u10 = true ∧ u11 = true ∧ u12 = true ∧ u13 = true ∧ u14 = true ∧ u15 = true ∧ u16 = true ∧ u17 = true ∧ u18 = true ∧ u19 = true ∧ u20 = true ∧ u21 = true ∧ u22 = true ∧ u23 = true ∧ u24 = true)) (by kernel_rfl) (by kernel_rfl) ?h0 ?hstep ?hend
  case h0 =>
    exact ⟨false, false, false, false, false, false, false, false, false, false, false, false, false, false, false, false, false, false, false, false, false, false, false, false, false, false, 0, undef, rfl, rfl, (fun _ => Below.drew (Below.refl _ _)), (fun h => nomatch h), (fun h => nomatch h), (fun h => nomatch h), (fun h => nomatch h), (fun h => nomatch h), (fun h => nomatch h), (fun h => nomatch h), (fun h => nomatch h), (fun h => nomatch h), (fun h => nomatch h), (fun h => nomatch h), (fun h => nomatch h), (fun h => nomatch h), (fun h => nomatch h), (fun h => nomatch h), (fun h => nomatch h), (fun h => nomatch h), (fun h => nomatch h)⟩
  case hstep =>
    rintro Lb A W ⟨u0, u1, u2, u3, u4, u5, u6, u7, u8, u9, u10, u11, u12, u13, u14, u15, u16, u17, u18, u19, u20, u21, u22, u23, u24, u25, sb, nv, rfl, rfl, kB, kN, kR, kZ, c2, c3, c4, c7, c8, c9, c10, c13, c17, c20, c21, c22, c23, c24, kF⟩
    refine ⟨?_, ?_, ?_, ?_, ?_, ?_, ?_, ?_, ?_, ?_, ?_, ?_, ?_, ?_, ?_, ?_, ?_, ?_, ?_, ?_, ?_, ?_, ?_, ?_, ?_, ?_, trivial⟩
    · intro h0 hd K hK
      have z : u0 = false := h0
      have z25_ : u25 = false := by
        cases hu : u25 with
        | false => rfl
        | true => exact nomatch z.symm.trans ((kF hu).1)
      have H_kB := hide kB
      have H_kN := hide kN
      have H_kR := hide kR
      have H_kZ := hide kZ
      have H_c2 := hide c2
      have H_c3 := hide c3
      have H_c4 := hide c4
      have H_c7 := hide c7
      have H_c8 := hide c8
      have H_c9 := hide c9
      have H_c10 := hide c10
      have H_c13 := hide c13
      have H_c17 := hide c17
      have H_c20 := hide c20
      have H_c21 := hide c21
      have H_c22 := hide c22
      have H_c23 := hide c23
      have H_c24 := hide c24
      have H_kF := hide kF
      clear kB kN kR kZ c2 c3 c4 c7 c8 c9 c10 c13 c17 c20 c21 c22 c23 c24 kF
      subst z25_
      subst z
      clear h0 hd
      rw [if_pos (by rfl)]
      go_simp
      exact unhide hK _ _ ⟨true, u1, u2, u3, u4, u5, u6, u7, u8, u9, u10, u11, u12, u13, u14, u15, u16, u17, u18, u19, u20, u21, u22, u23, u24, false, sb, nv, rfl, rfl, unhide H_kB, unhide H_kN, unhide H_kR, (fun h => nomatch h), unhide H_c2, unhide H_c3, unhide H_c4, unhide H_c7, unhide H_c8, unhide H_c9, unhide H_c10, unhide H_c13, unhide H_c17, unhide H_c20, unhide H_c21, unhide H_c22, (fun h => rfl), unhide H_c24, (fun h => nomatch h)⟩
    · intro h0 hd K hK
      have z : u1 = false := h0
      have z25_ : u25 = false := by
        cases hu : u25 with
        | false => rfl
        | true => exact nomatch z.symm.trans ((kF hu).2.1)
      have H_kB := hide kB
      have H_kN := hide kN
      have H_kR := hide kR
      have H_kZ := hide kZ
      have H_c2 := hide c2
      have H_c3 := hide c3
      have H_c4 := hide c4
      have H_c7 := hide c7
      have H_c8 := hide c8
      have H_c9 := hide c9
      have H_c10 := hide c10
      have H_c13 := hide c13
      have H_c17 := hide c17
      have H_c20 := hide c20
      have H_c21 := hide c21
      have H_c22 := hide c22
      have H_c23 := hide c23
      have H_c24 := hide c24
      have H_kF := hide kF
      clear kB kN kR kZ c2 c3 c4 c7 c8 c9 c10 c13 c17 c20 c21 c22 c23 c24 kF
      subst z25_
      subst z
      clear h0 hd
      rw [if_pos (by rfl)]
      go_simp
      exact unhide hK _ _ ⟨u0, true, u2, u3, u4, u5, u6, u7, u8, u9, u10, u11, u12, u13, u14, u15, u16, u17, u18, u19, u20, u21, u22, u23, u24, false, sb, nv, rfl, rfl, unhide H_kB, unhide H_kN, unhide H_kR, (fun h => nomatch h), (fun h => rfl), unhide H_c3, unhide H_c4, unhide H_c7, unhide H_c8, unhide H_c9, unhide H_c10, unhide H_c13, unhide H_c17, unhide H_c20, unhide H_c21, unhide H_c22, unhide H_c23, unhide H_c24, (fun h => nomatch h)⟩
    · intro h0 hd K hK
      have z : u2 = false := h0
      have z25_ : u25 = false := by
        cases hu : u25 with
        | false => rfl
        | true => exact nomatch z.symm.trans ((kF hu).2.2.1)
      have zd : u1 = true := by
        simp [Region.binds] at hd
        simp [hd]
      have H_kB := hide kB
      have H_kN := hide kN
      have H_kR := hide kR
      have H_kZ := hide kZ
      have H_c2 := hide c2
      have H_c3 := hide c3
      have H_c4 := hide c4
      have H_c7 := hide c7
      have H_c8 := hide c8
      have H_c9 := hide c9
      have H_c10 := hide c10
      have H_c13 := hide c13
      have H_c17 := hide c17
      have H_c20 := hide c20
      have H_c21 := hide c21
      have H_c22 := hide c22
      have H_c23 := hide c23
      have H_c24 := hide c24
      have H_kF := hide kF
      clear kB kN kR kZ c2 c3 c4 c7 c8 c9 c10 c13 c17 c20 c21 c22 c23 c24 kF
      obtain ⟨rfl⟩ := zd
      subst z25_
      subst z
      clear h0 hd
      rw [if_pos (by rfl)]
      go_simp
      exact unhide hK _ _ ⟨u0, true, true, u3, u4, u5, u6, u7, u8, u9, u10, u11, u12, u13, u14, u15, u16, u17, u18, u19, u20, u21, u22, u23, u24, false, sb, nv, rfl, rfl, unhide H_kB, unhide H_kN, unhide H_kR, (fun h => nomatch h), (fun _ => rfl), (fun h => rfl), unhide H_c4, unhide H_c7, unhide H_c8, unhide H_c9, unhide H_c10, unhide H_c13, unhide H_c17, unhide H_c20, unhide H_c21, unhide H_c22, unhide H_c23, unhide H_c24, (fun h => nomatch h)⟩
    · intro h0 hd K hK
      have z : u3 = false := h0
      have z25_ : u25 = false := by
        cases hu : u25 with
        | false => rfl
        | true => exact nomatch z.symm.trans ((kF hu).2.2.2.1)
      have zd : u2 = true := by
        simp [Region.binds] at hd
        simp [hd]
      have H_kB := hide kB
      have H_kN := hide kN
      have H_kR := hide kR
      have H_kZ := hide kZ
      have H_c2 := hide c2
      have H_c3 := hide c3
      have H_c4 := hide c4
      have H_c7 := hide c7
      have H_c8 := hide c8
      have H_c9 := hide c9
      have H_c10 := hide c10
      have H_c13 := hide c13
      have H_c17 := hide c17
      have H_c20 := hide c20
      have H_c21 := hide c21
      have H_c22 := hide c22
      have H_c23 := hide c23
      have H_c24 := hide c24
      have H_kF := hide kF
      clear kB kN kR kZ c2 c3 c4 c7 c8 c9 c10 c13 c17 c20 c21 c22 c23 c24 kF
      obtain ⟨rfl⟩ := zd
      subst z25_
      subst z
      clear h0 hd
      rw [if_pos (by rfl)]
      go_simp
      exact unhide hK _ _ ⟨u0, u1, true, true, u4, u5, u6, u7, u8, u9, u10, u11, u12, u13, u14, u15, u16, u17, u18, u19, u20, u21, u22, u23, u24, false, sb, nv, rfl, rfl, unhide H_kB, unhide H_kN, unhide H_kR, (fun h => nomatch h), unhide H_c2, (fun _ => rfl), (fun h => rfl), unhide H_c7, unhide H_c8, unhide H_c9, unhide H_c10, unhide H_c13, unhide H_c17, unhide H_c20, unhide H_c21, unhide H_c22, unhide H_c23, unhide H_c24, (fun h => nomatch h)⟩
    · intro h0 hd K hK
      have z : u4 = false := h0
      have z25_ : u25 = false := by
        cases hu : u25 with
        | false => rfl
        | true => exact nomatch z.symm.trans ((kF hu).2.2.2.2.1)
      have z22_ : u22 = false := by
        cases hu : u22 with
        | false => rfl
        | true => exact nomatch z.symm.trans ((c22 hu).1)
      have zd : u3 = true := by
        simp [Region.binds] at hd
        simp [hd]
      have H_kB := hide kB
      have H_kN := hide kN
      have H_kR := hide kR
      have H_kZ := hide kZ
      have H_c2 := hide c2
      have H_c3 := hide c3
      have H_c4 := hide c4
      have H_c7 := hide c7
      have H_c8 := hide c8
      have H_c9 := hide c9
      have H_c10 := hide c10
      have H_c13 := hide c13
      have H_c17 := hide c17
      have H_c20 := hide c20
      have H_c21 := hide c21
      have H_c22 := hide c22
      have H_c23 := hide c23
      have H_c24 := hide c24
      have H_kF := hide kF
      clear kB kN kR kZ c2 c3 c4 c7 c8 c9 c10 c13 c17 c20 c21 c22 c23 c24 kF
      obtain ⟨rfl⟩ := zd
      subst z25_
      subst z22_
      subst z
      clear h0 hd
      rw [if_pos (by rfl)]
      have hB := unhide H_kB rfl
      have cc := keep1 hB (unhide H6)
      clear hB
      go_simp
      exact unhide hK _ _ ⟨u0, u1, u2, true, true, u5, u6, u7, u8, u9, u10, u11, u12, u13, u14, u15, u16, u17, u18, u19, u20, u21, false, u23, u24, false, sb, nv, rfl, rfl, (fun _ => (unhide H_kB) rfl), unhide H_kN, (fun h => nomatch h), (fun h => nomatch h), unhide H_c2, unhide H_c3, (fun _ => rfl), unhide H_c7, unhide H_c8, unhide H_c9, unhide H_c10, unhide H_c13, unhide H_c17, unhide H_c20, unhide H_c21, (fun h => nomatch h), unhide H_c23, unhide H_c24, (fun h => nomatch h)⟩
    · intro h0 hd K hK
      have z : u5 = false := h0
      have z25_ : u25 = false := by
        cases hu : u25 with
        | false => rfl
        | true => exact nomatch z.symm.trans ((kF hu).2.2.2.2.2.1)
      have H_kB := hide kB
      have H_kN := hide kN
      have H_kR := hide kR
      have H_kZ := hide kZ
      have H_c2 := hide c2
      have H_c3 := hide c3
      have H_c4 := hide c4
      have H_c7 := hide c7
      have H_c8 := hide c8
      have H_c9 := hide c9
      have H_c10 := hide c10
      have H_c13 := hide c13
      have H_c17 := hide c17
      have H_c20 := hide c20
      have H_c21 := hide c21
      have H_c22 := hide c22
      have H_c23 := hide c23
      have H_c24 := hide c24
      have H_kF := hide kF
      clear kB kN kR kZ c2 c3 c4 c7 c8 c9 c10 c13 c17 c20 c21 c22 c23 c24 kF
      subst z25_
      subst z
      clear h0 hd
      rw [if_pos (by rfl)]
      go_simp
      exact unhide hK _ _ ⟨u0, u1, u2, u3, u4, true, u6, u7, u8, u9, u10, u11, u12, u13, u14, u15, u16, u17, u18, u19, u20, u21, u22, u23, u24, false, sb, nv, rfl, rfl, unhide H_kB, unhide H_kN, unhide H_kR, (fun h => nomatch h), unhide H_c2, unhide H_c3, unhide H_c4, unhide H_c7, unhide H_c8, unhide H_c9, (fun h => ⟨rfl, (unhide H_c10 h).2⟩), unhide H_c13, unhide H_c17, unhide H_c20, unhide H_c21, unhide H_c22, unhide H_c23, unhide H_c24, (fun h => nomatch h)⟩
    · intro h0 hd K hK
      have z : u6 = false := h0
      have z25_ : u25 = false := by
        cases hu : u25 with
        | false => rfl
        | true => exact nomatch z.symm.trans ((kF hu).2.2.2.2.2.2.1)
      have H_kB := hide kB
      have H_kN := hide kN
      have H_kR := hide kR
      have H_kZ := hide kZ
      have H_c2 := hide c2
      have H_c3 := hide c3
      have H_c4 := hide c4
      have H_c7 := hide c7
      have H_c8 := hide c8
      have H_c9 := hide c9
      have H_c10 := hide c10
      have H_c13 := hide c13
      have H_c17 := hide c17
      have H_c20 := hide c20
      have H_c21 := hide c21
      have H_c22 := hide c22
      have H_c23 := hide c23
      have H_c24 := hide c24
      have H_kF := hide kF
      clear kB kN kR kZ c2 c3 c4 c7 c8 c9 c10 c13 c17 c20 c21 c22 c23 c24 kF
      subst z25_
      subst z
      clear h0 hd
      rw [if_pos (by rfl)]
      go_simp
      exact unhide hK _ _ ⟨u0, u1, u2, u3, u4, u5, true, u7, u8, u9, u10, u11, u12, u13, u14, u15, u16, u17, u18, u19, u20, u21, u22, u23, u24, false, sb, nv, rfl, rfl, unhide H_kB, unhide H_kN, unhide H_kR, (fun h => nomatch h), unhide H_c2, unhide H_c3, unhide H_c4, (fun h => rfl), unhide H_c8, unhide H_c9, unhide H_c10, unhide H_c13, unhide H_c17, unhide H_c20, unhide H_c21, unhide H_c22, unhide H_c23, unhide H_c24, (fun h => nomatch h)⟩
    · intro h0 hd K hK
      have z : u7 = false := h0
      have z25_ : u25 = false := by
        cases hu : u25 with
        | false => rfl
        | true => exact nomatch z.symm.trans ((kF hu).2.2.2.2.2.2.2.1)
      have zd : u6 = true := by
        simp [Region.binds] at hd
        simp [hd]
      have H_kB := hide kB
      have H_kN := hide kN
      have H_kR := hide kR
      have H_kZ := hide kZ
      have H_c2 := hide c2
      have H_c3 := hide c3
      have H_c4 := hide c4
      have H_c7 := hide c7
      have H_c8 := hide c8
      have H_c9 := hide c9
      have H_c10 := hide c10
      have H_c13 := hide c13
      have H_c17 := hide c17
      have H_c20 := hide c20
      have H_c21 := hide c21
      have H_c22 := hide c22
      have H_c23 := hide c23
      have H_c24 := hide c24
      have H_kF := hide kF
      clear kB kN kR kZ c2 c3 c4 c7 c8 c9 c10 c13 c17 c20 c21 c22 c23 c24 kF
      obtain ⟨rfl⟩ := zd
      subst z25_
      subst z
      clear h0 hd
      rw [if_pos (by rfl)]
      go_simp
      exact unhide hK _ _ ⟨u0, u1, u2, u3, u4, u5, true, true, u8, u9, u10, u11, u12, u13, u14, u15, u16, u17, u18, u19, u20, u21, u22, u23, u24, false, sb, nv, rfl, rfl, unhide H_kB, unhide H_kN, unhide H_kR, (fun h => nomatch h), unhide H_c2, unhide H_c3, unhide H_c4, (fun _ => rfl), (fun h => rfl), unhide H_c9, unhide H_c10, unhide H_c13, unhide H_c17, unhide H_c20, unhide H_c21, unhide H_c22, unhide H_c23, unhide H_c24, (fun h => nomatch h)⟩
    · intro h0 hd K hK
      have z : u8 = false := h0
      have z25_ : u25 = false := by
        cases hu : u25 with
        | false => rfl
        | true => exact nomatch z.symm.trans ((kF hu).2.2.2.2.2.2.2.2.1)
      have zd : u7 = true := by
        simp [Region.binds] at hd
        simp [hd]
      have H_kB := hide kB
      have H_kN := hide kN
      have H_kR := hide kR
      have H_kZ := hide kZ
      have H_c2 := hide c2
      have H_c3 := hide c3
      have H_c4 := hide c4
      have H_c7 := hide c7
      have H_c8 := hide c8
      have H_c9 := hide c9
      have H_c10 := hide c10
      have H_c13 := hide c13
      have H_c17 := hide c17
      have H_c20 := hide c20
      have H_c21 := hide c21
      have H_c22 := hide c22
      have H_c23 := hide c23
      have H_c24 := hide c24
      have H_kF := hide kF
      clear kB kN kR kZ c2 c3 c4 c7 c8 c9 c10 c13 c17 c20 c21 c22 c23 c24 kF
      obtain ⟨rfl⟩ := zd
      subst z25_
      subst z
      clear h0 hd
      rw [if_pos (by rfl)]
      go_simp
      exact unhide hK _ _ ⟨u0, u1, u2, u3, u4, u5, u6, true, true, u9, u10, u11, u12, u13, u14, u15, u16, u17, u18, u19, u20, u21, u22, u23, u24, false, sb, nv, rfl, rfl, unhide H_kB, unhide H_kN, unhide H_kR, (fun h => nomatch h), unhide H_c2, unhide H_c3, unhide H_c4, unhide H_c7, (fun _ => rfl), (fun h => rfl), unhide H_c10, unhide H_c13, unhide H_c17, unhide H_c20, unhide H_c21, unhide H_c22, unhide H_c23, unhide H_c24, (fun h => nomatch h)⟩
    · intro h0 hd K hK
      have z : u9 = false := h0
      have z25_ : u25 = false := by
        cases hu : u25 with
        | false => rfl
        | true => exact nomatch z.symm.trans ((kF hu).2.2.2.2.2.2.2.2.2.1)
      have z22_ : u22 = false := by
        cases hu : u22 with
        | false => rfl
        | true => exact nomatch z.symm.trans ((c10 (c21 (c22 hu).2).1).2)
      have zd : u8 = true := by
        simp [Region.binds] at hd
        simp [hd]
      have H_kB := hide kB
      have H_kN := hide kN
      have H_kR := hide kR
      have H_kZ := hide kZ
      have H_c2 := hide c2
      have H_c3 := hide c3
      have H_c4 := hide c4
      have H_c7 := hide c7
      have H_c8 := hide c8
      have H_c9 := hide c9
      have H_c10 := hide c10
      have H_c13 := hide c13
      have H_c17 := hide c17
      have H_c20 := hide c20
      have H_c21 := hide c21
      have H_c22 := hide c22
      have H_c23 := hide c23
      have H_c24 := hide c24
      have H_kF := hide kF
      clear kB kN kR kZ c2 c3 c4 c7 c8 c9 c10 c13 c17 c20 c21 c22 c23 c24 kF
      obtain ⟨rfl⟩ := zd
      subst z25_
      subst z22_
      subst z
      clear h0 hd
      rw [if_pos (by rfl)]
      have hB := unhide H_kB rfl
      have cc := keep1 hB (unhide H5)
      clear hB
      go_simp
      exact unhide hK _ _ ⟨u0, u1, u2, u3, u4, u5, u6, u7, true, true, u10, u11, u12, u13, u14, u15, u16, u17, u18, u19, u20, u21, false, u23, u24, false, sb, nv, rfl, rfl, (fun _ => (unhide H_kB) rfl), unhide H_kN, (fun h => nomatch h), (fun h => nomatch h), unhide H_c2, unhide H_c3, unhide H_c4, unhide H_c7, unhide H_c8, (fun _ => rfl), (fun h => ⟨(unhide H_c10 h).1, rfl⟩), unhide H_c13, unhide H_c17, unhide H_c20, unhide H_c21, (fun h => nomatch h), unhide H_c23, unhide H_c24, (fun h => nomatch h)⟩
    · intro h0 hd K hK
      have z : u10 = false := h0
      have z25_ : u25 = false := by
        cases hu : u25 with
        | false => rfl
        | true => exact nomatch z.symm.trans ((kF hu).2.2.2.2.2.2.2.2.2.2.1)
      have zd : u5 = true ∧ u9 = true := by
        simp [Region.binds] at hd
        simp [hd]
      have H_kB := hide kB
      have H_kN := hide kN
      have H_kR := hide kR
      have H_kZ := hide kZ
      have H_c2 := hide c2
      have H_c3 := hide c3
      have H_c4 := hide c4
      have H_c7 := hide c7
      have H_c8 := hide c8
      have H_c9 := hide c9
      have H_c10 := hide c10
      have H_c13 := hide c13
      have H_c17 := hide c17
      have H_c20 := hide c20
      have H_c21 := hide c21
      have H_c22 := hide c22
      have H_c23 := hide c23
      have H_c24 := hide c24
      have H_kF := hide kF
      clear kB kN kR kZ c2 c3 c4 c7 c8 c9 c10 c13 c17 c20 c21 c22 c23 c24 kF
      obtain ⟨rfl, rfl⟩ := zd
      subst z25_
      subst z
      clear h0 hd
      rw [if_pos (by rfl)]
      go_simp
      exact unhide hK _ _ ⟨u0, u1, u2, u3, u4, true, u6, u7, u8, true, true, u11, u12, u13, u14, u15, u16, u17, u18, u19, u20, u21, u22, u23, u24, false, sb, nv, rfl, rfl, unhide H_kB, unhide H_kN, unhide H_kR, (fun h => nomatch h), unhide H_c2, unhide H_c3, unhide H_c4, unhide H_c7, unhide H_c8, unhide H_c9, (fun _ => ⟨rfl, rfl⟩), unhide H_c13, unhide H_c17, unhide H_c20, (fun h => ⟨rfl, (unhide H_c21 h).2.1, (unhide H_c21 h).2.2.1, (unhide H_c21 h).2.2.2⟩), unhide H_c22, unhide H_c23, unhide H_c24, (fun h => nomatch h)⟩
    · intro h0 hd K hK
      have z : u11 = false := h0
      have z25_ : u25 = false := by
        cases hu : u25 with
        | false => rfl
        | true => exact nomatch z.symm.trans ((kF hu).2.2.2.2.2.2.2.2.2.2.2.1)
      have H_kB := hide kB
      have H_kN := hide kN
      have H_kR := hide kR
      have H_kZ := hide kZ
      have H_c2 := hide c2
      have H_c3 := hide c3
      have H_c4 := hide c4
      have H_c7 := hide c7
      have H_c8 := hide c8
      have H_c9 := hide c9
      have H_c10 := hide c10
      have H_c13 := hide c13
      have H_c17 := hide c17
      have H_c20 := hide c20
      have H_c21 := hide c21
      have H_c22 := hide c22
      have H_c23 := hide c23
      have H_c24 := hide c24
      have H_kF := hide kF
      clear kB kN kR kZ c2 c3 c4 c7 c8 c9 c10 c13 c17 c20 c21 c22 c23 c24 kF
      subst z25_
      subst z
      clear h0 hd
      rw [if_pos (by rfl)]
      go_simp
      exact unhide hK _ _ ⟨u0, u1, u2, u3, u4, u5, u6, u7, u8, u9, u10, true, u12, u13, u14, u15, u16, u17, u18, u19, u20, u21, u22, u23, u24, false, sb, nv, rfl, rfl, unhide H_kB, unhide H_kN, unhide H_kR, (fun h => nomatch h), unhide H_c2, unhide H_c3, unhide H_c4, unhide H_c7, unhide H_c8, unhide H_c9, unhide H_c10, (fun h => ⟨rfl, (unhide H_c13 h).2⟩), unhide H_c17, unhide H_c20, unhide H_c21, unhide H_c22, unhide H_c23, unhide H_c24, (fun h => nomatch h)⟩
    · intro h0 hd K hK
      have z : u12 = false := h0
      have z25_ : u25 = false := by
        cases hu : u25 with
        | false => rfl
        | true => exact nomatch z.symm.trans ((kF hu).2.2.2.2.2.2.2.2.2.2.2.2.1)
      have H_kB := hide kB
      have H_kN := hide kN
      have H_kR := hide kR
      have H_kZ := hide kZ
      have H_c2 := hide c2
      have H_c3 := hide c3
      have H_c4 := hide c4
      have H_c7 := hide c7
      have H_c8 := hide c8
      have H_c9 := hide c9
      have H_c10 := hide c10
      have H_c13 := hide c13
      have H_c17 := hide c17
      have H_c20 := hide c20
      have H_c21 := hide c21
      have H_c22 := hide c22
      have H_c23 := hide c23
      have H_c24 := hide c24
      have H_kF := hide kF
      clear kB kN kR kZ c2 c3 c4 c7 c8 c9 c10 c13 c17 c20 c21 c22 c23 c24 kF
      subst z25_
      subst z
      clear h0 hd
      rw [if_pos (by rfl)]
      go_simp
      exact unhide hK _ _ ⟨u0, u1, u2, u3, u4, u5, u6, u7, u8, u9, u10, u11, true, u13, u14, u15, u16, u17, u18, u19, u20, u21, u22, u23, u24, false, sb, nv, rfl, rfl, unhide H_kB, unhide H_kN, unhide H_kR, (fun h => nomatch h), unhide H_c2, unhide H_c3, unhide H_c4, unhide H_c7, unhide H_c8, unhide H_c9, unhide H_c10, (fun h => ⟨(unhide H_c13 h).1, rfl⟩), unhide H_c17, unhide H_c20, unhide H_c21, unhide H_c22, unhide H_c23, unhide H_c24, (fun h => nomatch h)⟩
    · intro h0 hd K hK
      have z : u13 = false := h0
      have z25_ : u25 = false := by
        cases hu : u25 with
        | false => rfl
        | true => exact nomatch z.symm.trans ((kF hu).2.2.2.2.2.2.2.2.2.2.2.2.2.1)
      have zd : u11 = true ∧ u12 = true := by
        simp [Region.binds] at hd
        simp [hd]
      have H_kB := hide kB
      have H_kN := hide kN
      have H_kR := hide kR
      have H_kZ := hide kZ
      have H_c2 := hide c2
      have H_c3 := hide c3
      have H_c4 := hide c4
      have H_c7 := hide c7
      have H_c8 := hide c8
      have H_c9 := hide c9
      have H_c10 := hide c10
      have H_c13 := hide c13
      have H_c17 := hide c17
      have H_c20 := hide c20
      have H_c21 := hide c21
      have H_c22 := hide c22
      have H_c23 := hide c23
      have H_c24 := hide c24
      have H_kF := hide kF
      clear kB kN kR kZ c2 c3 c4 c7 c8 c9 c10 c13 c17 c20 c21 c22 c23 c24 kF
      obtain ⟨rfl, rfl⟩ := zd
      subst z25_
      subst z
      clear h0 hd
      rw [if_pos (by rfl)]
      go_simp
      exact unhide hK _ _ ⟨u0, u1, u2, u3, u4, u5, u6, u7, u8, u9, u10, true, true, true, u14, u15, u16, u17, u18, u19, u20, u21, u22, u23, u24, false, sb, nv, rfl, rfl, unhide H_kB, unhide H_kN, unhide H_kR, (fun h => nomatch h), unhide H_c2, unhide H_c3, unhide H_c4, unhide H_c7, unhide H_c8, unhide H_c9, unhide H_c10, (fun _ => ⟨rfl, rfl⟩), unhide H_c17, unhide H_c20, (fun h => ⟨(unhide H_c21 h).1, rfl, (unhide H_c21 h).2.2.1, (unhide H_c21 h).2.2.2⟩), unhide H_c22, unhide H_c23, unhide H_c24, (fun h => nomatch h)⟩
    · intro h0 hd K hK
      have z : u14 = false := h0
      have z25_ : u25 = false := by
        cases hu : u25 with
        | false => rfl
        | true => exact nomatch z.symm.trans ((kF hu).2.2.2.2.2.2.2.2.2.2.2.2.2.2.1)
      have H_kB := hide kB
      have H_kN := hide kN
      have H_kR := hide kR
      have H_kZ := hide kZ
      have H_c2 := hide c2
      have H_c3 := hide c3
      have H_c4 := hide c4
      have H_c7 := hide c7
      have H_c8 := hide c8
      have H_c9 := hide c9
      have H_c10 := hide c10
      have H_c13 := hide c13
      have H_c17 := hide c17
      have H_c20 := hide c20
      have H_c21 := hide c21
      have H_c22 := hide c22
      have H_c23 := hide c23
      have H_c24 := hide c24
      have H_kF := hide kF
      clear kB kN kR kZ c2 c3 c4 c7 c8 c9 c10 c13 c17 c20 c21 c22 c23 c24 kF
      subst z25_
      subst z
      clear h0 hd
      rw [if_pos (by rfl)]
      go_simp
      exact unhide hK _ _ ⟨u0, u1, u2, u3, u4, u5, u6, u7, u8, u9, u10, u11, u12, u13, true, u15, u16, u17, u18, u19, u20, u21, u22, u23, u24, false, sb, nv, rfl, rfl, unhide H_kB, unhide H_kN, unhide H_kR, (fun h => nomatch h), unhide H_c2, unhide H_c3, unhide H_c4, unhide H_c7, unhide H_c8, unhide H_c9, unhide H_c10, unhide H_c13, (fun h => ⟨rfl, (unhide H_c17 h).2.1, (unhide H_c17 h).2.2⟩), unhide H_c20, unhide H_c21, unhide H_c22, unhide H_c23, unhide H_c24, (fun h => nomatch h)⟩
    · intro h0 hd K hK
      have z : u15 = false := h0
      have z25_ : u25 = false := by
        cases hu : u25 with
        | false => rfl
        | true => exact nomatch z.symm.trans ((kF hu).2.2.2.2.2.2.2.2.2.2.2.2.2.2.2.1)
      have H_kB := hide kB
      have H_kN := hide kN
      have H_kR := hide kR
      have H_kZ := hide kZ
      have H_c2 := hide c2
      have H_c3 := hide c3
      have H_c4 := hide c4
      have H_c7 := hide c7
      have H_c8 := hide c8
      have H_c9 := hide c9
      have H_c10 := hide c10
      have H_c13 := hide c13
      have H_c17 := hide c17
      have H_c20 := hide c20
      have H_c21 := hide c21
      have H_c22 := hide c22
      have H_c23 := hide c23
      have H_c24 := hide c24
      have H_kF := hide kF
      clear kB kN kR kZ c2 c3 c4 c7 c8 c9 c10 c13 c17 c20 c21 c22 c23 c24 kF
      subst z25_
      subst z
      clear h0 hd
      rw [if_pos (by rfl)]
      go_simp
      exact unhide hK _ _ ⟨u0, u1, u2, u3, u4, u5, u6, u7, u8, u9, u10, u11, u12, u13, u14, true, u16, u17, u18, u19, u20, u21, u22, u23, u24, false, sb, nv, rfl, rfl, unhide H_kB, unhide H_kN, unhide H_kR, (fun h => nomatch h), unhide H_c2, unhide H_c3, unhide H_c4, unhide H_c7, unhide H_c8, unhide H_c9, unhide H_c10, unhide H_c13, (fun h => ⟨(unhide H_c17 h).1, rfl, (unhide H_c17 h).2.2⟩), unhide H_c20, unhide H_c21, unhide H_c22, unhide H_c23, unhide H_c24, (fun h => nomatch h)⟩
    · intro h0 hd K hK
      have z : u16 = false := h0
      have z25_ : u25 = false := by
        cases hu : u25 with
        | false => rfl
        | true => exact nomatch z.symm.trans ((kF hu).2.2.2.2.2.2.2.2.2.2.2.2.2.2.2.2.1)
      have H_kB := hide kB
      have H_kN := hide kN
      have H_kR := hide kR
      have H_kZ := hide kZ
      have H_c2 := hide c2
      have H_c3 := hide c3
      have H_c4 := hide c4
      have H_c7 := hide c7
      have H_c8 := hide c8
      have H_c9 := hide c9
      have H_c10 := hide c10
      have H_c13 := hide c13
      have H_c17 := hide c17
      have H_c20 := hide c20
      have H_c21 := hide c21
      have H_c22 := hide c22
      have H_c23 := hide c23
      have H_c24 := hide c24
      have H_kF := hide kF
      clear kB kN kR kZ c2 c3 c4 c7 c8 c9 c10 c13 c17 c20 c21 c22 c23 c24 kF
      subst z25_
      subst z
      clear h0 hd
      rw [if_pos (by rfl)]
      go_simp
      exact unhide hK _ _ ⟨u0, u1, u2, u3, u4, u5, u6, u7, u8, u9, u10, u11, u12, u13, u14, u15, true, u17, u18, u19, u20, u21, u22, u23, u24, false, sb, nv, rfl, rfl, unhide H_kB, unhide H_kN, unhide H_kR, (fun h => nomatch h), unhide H_c2, unhide H_c3, unhide H_c4, unhide H_c7, unhide H_c8, unhide H_c9, unhide H_c10, unhide H_c13, (fun h => ⟨(unhide H_c17 h).1, (unhide H_c17 h).2.1, rfl⟩), unhide H_c20, unhide H_c21, unhide H_c22, unhide H_c23, unhide H_c24, (fun h => nomatch h)⟩
    · intro h0 hd K hK
      have z : u17 = false := h0
      have z25_ : u25 = false := by
        cases hu : u25 with
        | false => rfl
        | true => exact nomatch z.symm.trans ((kF hu).2.2.2.2.2.2.2.2.2.2.2.2.2.2.2.2.2.1)
      have zd : u14 = true ∧ u15 = true ∧ u16 = true := by
        simp [Region.binds] at hd
        simp [hd]
      have H_kB := hide kB
      have H_kN := hide kN
      have H_kR := hide kR
      have H_kZ := hide kZ
      have H_c2 := hide c2
      have H_c3 := hide c3
      have H_c4 := hide c4
      have H_c7 := hide c7
      have H_c8 := hide c8
      have H_c9 := hide c9
      have H_c10 := hide c10
      have H_c13 := hide c13
      have H_c17 := hide c17
      have H_c20 := hide c20
      have H_c21 := hide c21
      have H_c22 := hide c22
      have H_c23 := hide c23
      have H_c24 := hide c24
      have H_kF := hide kF
      clear kB kN kR kZ c2 c3 c4 c7 c8 c9 c10 c13 c17 c20 c21 c22 c23 c24 kF
      obtain ⟨rfl, rfl, rfl⟩ := zd
      subst z25_
      subst z
      clear h0 hd
      rw [if_pos (by rfl)]
      go_simp
      exact unhide hK _ _ ⟨u0, u1, u2, u3, u4, u5, u6, u7, u8, u9, u10, u11, u12, u13, true, true, true, true, u18, u19, u20, u21, u22, u23, u24, false, sb, nv, rfl, rfl, unhide H_kB, unhide H_kN, unhide H_kR, (fun h => nomatch h), unhide H_c2, unhide H_c3, unhide H_c4, unhide H_c7, unhide H_c8, unhide H_c9, unhide H_c10, unhide H_c13, (fun _ => ⟨rfl, rfl, rfl⟩), unhide H_c20, (fun h => ⟨(unhide H_c21 h).1, (unhide H_c21 h).2.1, rfl, (unhide H_c21 h).2.2.2⟩), unhide H_c22, unhide H_c23, unhide H_c24, (fun h => nomatch h)⟩
    · intro h0 hd K hK
      have z : u18 = false := h0
      have z25_ : u25 = false := by
        cases hu : u25 with
        | false => rfl
        | true => exact nomatch z.symm.trans ((kF hu).2.2.2.2.2.2.2.2.2.2.2.2.2.2.2.2.2.2.1)
      have H_kB := hide kB
      have H_kN := hide kN
      have H_kR := hide kR
      have H_kZ := hide kZ
      have H_c2 := hide c2
      have H_c3 := hide c3
      have H_c4 := hide c4
      have H_c7 := hide c7
      have H_c8 := hide c8
      have H_c9 := hide c9
      have H_c10 := hide c10
      have H_c13 := hide c13
      have H_c17 := hide c17
      have H_c20 := hide c20
      have H_c21 := hide c21
      have H_c22 := hide c22
      have H_c23 := hide c23
      have H_c24 := hide c24
      have H_kF := hide kF
      clear kB kN kR kZ c2 c3 c4 c7 c8 c9 c10 c13 c17 c20 c21 c22 c23 c24 kF
      subst z25_
      subst z
      clear h0 hd
      rw [if_pos (by rfl)]
      go_simp
      exact unhide hK _ _ ⟨u0, u1, u2, u3, u4, u5, u6, u7, u8, u9, u10, u11, u12, u13, u14, u15, u16, u17, true, u19, u20, u21, u22, u23, u24, false, sb, nv, rfl, rfl, unhide H_kB, unhide H_kN, unhide H_kR, (fun h => nomatch h), unhide H_c2, unhide H_c3, unhide H_c4, unhide H_c7, unhide H_c8, unhide H_c9, unhide H_c10, unhide H_c13, unhide H_c17, (fun h => ⟨rfl, (unhide H_c20 h).2⟩), unhide H_c21, unhide H_c22, unhide H_c23, unhide H_c24, (fun h => nomatch h)⟩
    · intro h0 hd K hK
      have z : u19 = false := h0
      have z25_ : u25 = false := by
        cases hu : u25 with
        | false => rfl
        | true => exact nomatch z.symm.trans ((kF hu).2.2.2.2.2.2.2.2.2.2.2.2.2.2.2.2.2.2.2.1)
      have H_kB := hide kB
      have H_kN := hide kN
      have H_kR := hide kR
      have H_kZ := hide kZ
      have H_c2 := hide c2
      have H_c3 := hide c3
      have H_c4 := hide c4
      have H_c7 := hide c7
      have H_c8 := hide c8
      have H_c9 := hide c9
      have H_c10 := hide c10
      have H_c13 := hide c13
      have H_c17 := hide c17
      have H_c20 := hide c20
      have H_c21 := hide c21
      have H_c22 := hide c22
      have H_c23 := hide c23
      have H_c24 := hide c24
      have H_kF := hide kF
      clear kB kN kR kZ c2 c3 c4 c7 c8 c9 c10 c13 c17 c20 c21 c22 c23 c24 kF
      subst z25_
      subst z
      clear h0 hd
      rw [if_pos (by rfl)]
      go_simp
      exact unhide hK _ _ ⟨u0, u1, u2, u3, u4, u5, u6, u7, u8, u9, u10, u11, u12, u13, u14, u15, u16, u17, u18, true, u20, u21, u22, u23, u24, false, sb, nv, rfl, rfl, unhide H_kB, unhide H_kN, unhide H_kR, (fun h => nomatch h), unhide H_c2, unhide H_c3, unhide H_c4, unhide H_c7, unhide H_c8, unhide H_c9, unhide H_c10, unhide H_c13, unhide H_c17, (fun h => ⟨(unhide H_c20 h).1, rfl⟩), unhide H_c21, unhide H_c22, unhide H_c23, unhide H_c24, (fun h => nomatch h)⟩
    · intro h0 hd K hK
      have z : u20 = false := h0
      have z25_ : u25 = false := by
        cases hu : u25 with
        | false => rfl
        | true => exact nomatch z.symm.trans ((kF hu).2.2.2.2.2.2.2.2.2.2.2.2.2.2.2.2.2.2.2.2.1)
      have zd : u18 = true ∧ u19 = true := by
        simp [Region.binds] at hd
        simp [hd]
      have H_kB := hide kB
      have H_kN := hide kN
      have H_kR := hide kR
      have H_kZ := hide kZ
      have H_c2 := hide c2
      have H_c3 := hide c3
      have H_c4 := hide c4
      have H_c7 := hide c7
      have H_c8 := hide c8
      have H_c9 := hide c9
      have H_c10 := hide c10
      have H_c13 := hide c13
      have H_c17 := hide c17
      have H_c20 := hide c20
      have H_c21 := hide c21
      have H_c22 := hide c22
      have H_c23 := hide c23
      have H_c24 := hide c24
      have H_kF := hide kF
      clear kB kN kR kZ c2 c3 c4 c7 c8 c9 c10 c13 c17 c20 c21 c22 c23 c24 kF
      obtain ⟨rfl, rfl⟩ := zd
      subst z25_
      subst z
      clear h0 hd
      rw [if_pos (by rfl)]
      go_simp
      exact unhide hK _ _ ⟨u0, u1, u2, u3, u4, u5, u6, u7, u8, u9, u10, u11, u12, u13, u14, u15, u16, u17, true, true, true, u21, u22, u23, u24, false, sb, nv, rfl, rfl, unhide H_kB, unhide H_kN, unhide H_kR, (fun h => nomatch h), unhide H_c2, unhide H_c3, unhide H_c4, unhide H_c7, unhide H_c8, unhide H_c9, unhide H_c10, unhide H_c13, unhide H_c17, (fun _ => ⟨rfl, rfl⟩), (fun h => ⟨(unhide H_c21 h).1, (unhide H_c21 h).2.1, (unhide H_c21 h).2.2.1, rfl⟩), unhide H_c22, unhide H_c23, unhide H_c24, (fun h => nomatch h)⟩
    · intro h0 hd K hK
      have z : u21 = false := h0
      have z25_ : u25 = false := by
        cases hu : u25 with
        | false => rfl
        | true => exact nomatch z.symm.trans ((kF hu).2.2.2.2.2.2.2.2.2.2.2.2.2.2.2.2.2.2.2.2.2.1)
      have z22_ : u22 = false := by
        cases hu : u22 with
        | false => rfl
        | true => exact nomatch z.symm.trans ((c22 hu).2)
      have zd : u10 = true ∧ u13 = true ∧ u17 = true ∧ u20 = true := by
        simp [Region.binds] at hd
        simp [hd]
      have H_kB := hide kB
      have H_kN := hide kN
      have H_kR := hide kR
      have H_kZ := hide kZ
      have H_c2 := hide c2
      have H_c3 := hide c3
      have H_c4 := hide c4
      have H_c7 := hide c7
      have H_c8 := hide c8
      have H_c9 := hide c9
      have H_c10 := hide c10
      have H_c13 := hide c13
      have H_c17 := hide c17
      have H_c20 := hide c20
      have H_c21 := hide c21
      have H_c22 := hide c22
      have H_c23 := hide c23
      have H_c24 := hide c24
      have H_kF := hide kF
      clear kB kN kR kZ c2 c3 c4 c7 c8 c9 c10 c13 c17 c20 c21 c22 c23 c24 kF
      obtain ⟨rfl, rfl, rfl, rfl⟩ := zd
      subst z25_
      subst z22_
      subst z
      clear h0 hd
      rw [if_pos (by rfl)]
      have hB := unhide H_kB rfl
      clear hB
      go_simp
      exact unhide hK _ _ ⟨u0, u1, u2, u3, u4, u5, u6, u7, u8, u9, true, u11, u12, true, u14, u15, u16, true, u18, u19, true, true, false, u23, u24, false, W.heap.size, nv, rfl, rfl, (fun _ => ba ((unhide H_kB) rfl) _), (fun _ _ => ⟨((unhide H_kB) rfl).size, vb_new W 65 (mv4 x oy y z) _ rfl⟩), (fun h => nomatch h), (fun h => nomatch h), unhide H_c2, unhide H_c3, unhide H_c4, unhide H_c7, unhide H_c8, unhide H_c9, unhide H_c10, unhide H_c13, unhide H_c17, unhide H_c20, (fun _ => ⟨rfl, rfl, rfl, rfl⟩), (fun h => nomatch h), unhide H_c23, unhide H_c24, (fun h => nomatch h)⟩
    · intro h0 hd K hK
      have z : u22 = false := h0
      have z25_ : u25 = false := by
        cases hu : u25 with
        | false => rfl
        | true => exact nomatch z.symm.trans ((kF hu).2.2.2.2.2.2.2.2.2.2.2.2.2.2.2.2.2.2.2.2.2.2.1)
      have zd : u4 = true ∧ u21 = true := by
        simp [Region.binds] at hd
        simp [hd]
      have H_kB := hide kB
      have H_kN := hide kN
      have H_kR := hide kR
      have H_kZ := hide kZ
      have H_c2 := hide c2
      have H_c3 := hide c3
      have H_c4 := hide c4
      have H_c7 := hide c7
      have H_c8 := hide c8
      have H_c9 := hide c9
      have H_c10 := hide c10
      have H_c13 := hide c13
      have H_c17 := hide c17
      have H_c20 := hide c20
      have H_c21 := hide c21
      have H_c22 := hide c22
      have H_c23 := hide c23
      have H_c24 := hide c24
      have H_kF := hide kF
      clear kB kN kR kZ c2 c3 c4 c7 c8 c9 c10 c13 c17 c20 c21 c22 c23 c24 kF
      obtain ⟨rfl, rfl⟩ := zd
      subst z25_
      subst z
      clear h0 hd
      rw [if_pos (by rfl)]
      have hB := unhide H_kB rfl
      obtain ⟨hp1, hp2⟩ := unhide H_kN rfl rfl
      have hr := (unhide HR).belo hB
      refine wp_append_new W (.tmp 85) (.tmp 102) 29 (by rfl) B 65 iP _ 4 32 Try.underlying29 hi1 hy0 hy1 hy2 rfl (by omega) ov m cs (by rfl) hr ⟨sb, 0, none⟩ 4 4 (mv4 x oy y z) (by rfl) (by rfl) (mv_cells hp2) (mv4_one x oy y z) (by unfold maxLen; omega) (by omega) (Nat.le_trans hBV hB.size) ?_
      intro v1' w1 hown' hgrow _ hnb
      have hA := Apz.of hB hBV hr hown' hgrow hnb
      exact unhide hK _ _ ⟨u0, u1, u2, u3, true, u5, u6, u7, u8, u9, u10, u11, u12, u13, u14, u15, u16, u17, u18, u19, u20, true, true, u23, u24, false, sb, v1', rfl, rfl, (fun h => nomatch h), (fun _ h => nomatch h), (fun _ _ => hA), (fun h => nomatch h), unhide H_c2, unhide H_c3, unhide H_c4, unhide H_c7, unhide H_c8, unhide H_c9, unhide H_c10, unhide H_c13, unhide H_c17, unhide H_c20, unhide H_c21, (fun _ => ⟨rfl, rfl⟩), unhide H_c23, unhide H_c24, (fun h => nomatch h)⟩
    · intro h0 hd K hK
      have z : u23 = false := h0
      have z25_ : u25 = false := by
        cases hu : u25 with
        | false => rfl
        | true => exact nomatch z.symm.trans ((kF hu).2.2.2.2.2.2.2.2.2.2.2.2.2.2.2.2.2.2.2.2.2.2.2.1)
      have zd : u0 = true := by
        simp [Region.binds] at hd
        simp [hd]
      have H_kB := hide kB
      have H_kN := hide kN
      have H_kR := hide kR
      have H_kZ := hide kZ
      have H_c2 := hide c2
      have H_c3 := hide c3
      have H_c4 := hide c4
      have H_c7 := hide c7
      have H_c8 := hide c8
      have H_c9 := hide c9
      have H_c10 := hide c10
      have H_c13 := hide c13
      have H_c17 := hide c17
      have H_c20 := hide c20
      have H_c21 := hide c21
      have H_c22 := hide c22
      have H_c23 := hide c23
      have H_c24 := hide c24
      have H_kF := hide kF
      clear kB kN kR kZ c2 c3 c4 c7 c8 c9 c10 c13 c17 c20 c21 c22 c23 c24 kF
      obtain ⟨rfl⟩ := zd
      subst z25_
      subst z
      clear h0 hd
      rw [if_pos (by rfl)]
      go_simp
      exact unhide hK _ _ ⟨true, u1, u2, u3, u4, u5, u6, u7, u8, u9, u10, u11, u12, u13, u14, u15, u16, u17, u18, u19, u20, u21, u22, true, u24, false, sb, nv, rfl, rfl, unhide H_kB, unhide H_kN, unhide H_kR, (fun h => nomatch h), unhide H_c2, unhide H_c3, unhide H_c4, unhide H_c7, unhide H_c8, unhide H_c9, unhide H_c10, unhide H_c13, unhide H_c17, unhide H_c20, unhide H_c21, unhide H_c22, (fun _ => rfl), (fun h => rfl), (fun h => nomatch h)⟩
    · intro h0 hd K hK
      have z : u24 = false := h0
      have z25_ : u25 = false := by
        cases hu : u25 with
        | false => rfl
        | true => exact nomatch z.symm.trans ((kF hu).2.2.2.2.2.2.2.2.2.2.2.2.2.2.2.2.2.2.2.2.2.2.2.2)
      have zd : u23 = true := by
        simp [Region.binds] at hd
        simp [hd]
      have H_kB := hide kB
      have H_kN := hide kN
      have H_kR := hide kR
      have H_kZ := hide kZ
      have H_c2 := hide c2
      have H_c3 := hide c3
      have H_c4 := hide c4
      have H_c7 := hide c7
      have H_c8 := hide c8
      have H_c9 := hide c9
      have H_c10 := hide c10
      have H_c13 := hide c13
      have H_c17 := hide c17
      have H_c20 := hide c20
      have H_c21 := hide c21
      have H_c22 := hide c22
      have H_c23 := hide c23
      have H_c24 := hide c24
      have H_kF := hide kF
      clear kB kN kR kZ c2 c3 c4 c7 c8 c9 c10 c13 c17 c20 c21 c22 c23 c24 kF
      obtain ⟨rfl⟩ := zd
      subst z25_
      subst z
      clear h0 hd
      rw [if_pos (by rfl)]
      go_simp
      exact unhide hK _ _ ⟨u0, u1, u2, u3, u4, u5, u6, u7, u8, u9, u10, u11, u12, u13, u14, u15, u16, u17, u18, u19, u20, u21, u22, true, true, false, sb, nv, rfl, rfl, unhide H_kB, unhide H_kN, unhide H_kR, (fun h => nomatch h), unhide H_c2, unhide H_c3, unhide H_c4, unhide H_c7, unhide H_c8, unhide H_c9, unhide H_c10, unhide H_c13, unhide H_c17, unhide H_c20, unhide H_c21, unhide H_c22, unhide H_c23, (fun _ => rfl), (fun h => nomatch h)⟩
    · intro h0 hd K hK
      have z : u25 = false := h0
      have zd : u24 = true ∧ u22 = true ∧ u0 = true ∧ u1 = true ∧ u2 = true ∧ u3 = true ∧ u4 = true ∧ u5 = true ∧ u6 = true ∧ u7 = true ∧ u8 = true ∧ u9 = true ∧ u10 = true ∧ u11 = true ∧ u12 = true ∧ u13 = true ∧ u14 = true ∧ u15 = true ∧ u16 = true ∧ u17 = true ∧ u18 = true ∧ u19 = true ∧ u20 = true ∧ u21 = true ∧ u23 = true := by
        simp [Region.binds] at hd
        simp_all
      have H_kB := hide kB
      have H_kN := hide kN
      have H_kR := hide kR
      have H_kZ := hide kZ
      have H_c2 := hide c2
      have H_c3 := hide c3
      have H_c4 := hide c4
      have H_c7 := hide c7
      have H_c8 := hide c8
      have H_c9 := hide c9
      have H_c10 := hide c10
      have H_c13 := hide c13
      have H_c17 := hide c17
      have H_c20 := hide c20
      have H_c21 := hide c21
      have H_c22 := hide c22
      have H_c23 := hide c23
      have H_c24 := hide c24
      have H_kF := hide kF
      clear kB kN kR kZ c2 c3 c4 c7 c8 c9 c10 c13 c17 c20 c21 c22 c23 c24 kF
      obtain ⟨rfl, rfl, rfl, rfl, rfl, rfl, rfl, rfl, rfl, rfl, rfl, rfl, rfl, rfl, rfl, rfl, rfl, rfl, rfl, rfl, rfl, rfl, rfl, rfl, rfl⟩ := zd
      subst z
      clear h0 hd
      rw [if_pos (by rfl)]
      have hA := unhide H_kR rfl rfl
      obtain ⟨gn, nc, hnv⟩ := Mvs.slc hA.row (by omega)
      subst hnv
      have cc : W.cell? ⟨gb, 6, none⟩ = some ov := (World.cell?_of_block (w := V) (a := ⟨gb, 6, none⟩) (hA.keep gb hgb hne)).trans (unhide H6)
      have fz : W.frozen? ⟨gb, 6, none⟩ = false := by
          have h1 := hA.keep gb hgb hne
          simp only [World.frozen?] at hfz ⊢
          rw [h1]
          exact hfz
      go_simp
      exact unhide hK _ _ ⟨true, true, true, true, true, true, true, true, true, true, true, true, true, true, true, true, true, true, true, true, true, true, true, true, true, true, sb, (.slice (some ⟨gn, 0, none⟩) (m + 4) nc), rfl, rfl, (fun h => nomatch h), (fun _ h => nomatch h), (fun _ h => nomatch h), (fun _ => ⟨W, hA, rfl⟩), (fun _ => rfl), (fun _ => rfl), (fun _ => rfl), (fun _ => rfl), (fun _ => rfl), (fun _ => rfl), (fun _ => ⟨rfl, rfl⟩), (fun _ => ⟨rfl, rfl⟩), (fun _ => ⟨rfl, rfl, rfl⟩), (fun _ => ⟨rfl, rfl⟩), (fun _ => ⟨rfl, rfl, rfl, rfl⟩), (fun _ => ⟨rfl, rfl⟩), (fun _ => rfl), (fun _ => rfl), (fun _ => ⟨rfl, rfl, rfl, rfl, rfl, rfl, rfl, rfl, rfl, rfl, rfl, rfl, rfl, rfl, rfl, rfl, rfl, rfl, rfl, rfl, rfl, rfl, rfl, rfl, rfl⟩)⟩
  case hend =>
    rintro Lb A W ⟨u0, u1, u2, u3, u4, u5, u6, u7, u8, u9, u10, u11, u12, u13, u14, u15, u16, u17, u18, u19, u20, u21, u22, u23, u24, u25, sb, nv, rfl, rfl, kB, kN, kR, kZ, c2, c3, c4, c7, c8, c9, c10, c13, c17, c20, c21, c22, c23, c24, kF⟩ hL
    have hl : u0 = true ∧ u1 = true ∧ u2 = true ∧ u3 = true ∧ u4 = true ∧ u5 = true ∧ u6 = true ∧ u7 = true ∧ u8 = true ∧ u9 = true ∧ u10 = true ∧ u11 = true ∧ u12 = true ∧ u13 = true ∧ u14 = true ∧ u15 = true ∧ u16 = true ∧ u17 = true ∧ u18 = true ∧ u19 = true ∧ u20 = true ∧ u21 = true ∧ u22 = true ∧ u23 = true ∧ u24 = true ∧ u25 = true := by
      have h2 := congrArg Array.toList hL
      simpa [List.replicate] using h2
    obtain ⟨rfl, rfl, rfl, rfl, rfl, rfl, rfl, rfl, rfl, rfl, rfl, rfl, rfl, rfl, rfl, rfl, rfl, rfl, rfl, rfl, rfl, rfl, rfl, rfl, rfl, rfl⟩ := hl
    obtain ⟨W1, hA, rfl⟩ := kZ rfl
    exact unhide HQ sb nv W1 hA
end Go.Proofs.Ytjhldjojkaphkaa

namespace Go.Proofs.Ytjhldjojkaphkaa
open Go.ChangeShapes Go.WideShapes Go.ChangeAt Go.RowKit
set_option linter.unusedVariables false
set_option linter.unusedSimpArgs false

theorem Same.dnz {a w : World} (h : Same a w) (n : Nat) : Same a (w.drewN n) := ⟨h.os, h.tape, h.output, h.heap⟩
set_option maxHeartbeats 8000000 in
set_option maxRecDepth 100000 in
theorem stM_any (W H r x y n ct pc gb gt gl B : Nat) (pu : Option Addr) (z : Int) (s : Zs) (w : World) (hW : W ≤ 24) (hH : H ≤ 24) (hr : r ≤ 3) (hx : x < W) (hy : y < H) (hn : n = W * H) (hz0 : 0 ≤ z) (hz1 : z ≤ 24)
    (hB1 : B ≤ gb) (hB2 : B ≤ gt) (e1 : gb ≠ gt) (e2 : gl ≠ gb) (e3 : gl ≠ gt) (hgl : gl < w.heap.size) (hT : s.T.length = n ∧ ∀ i, 0 ≤ tp s.T i ∧ tp s.T i ≤ 24) (few : 1 + 4 * s.ps.length ≤ 2004) (hZ : Zm w B gb gt gl n ct W H r pc pu s) :
    Calls Try.prog 43 #[.pointer (some ⟨gb, 0, none⟩), .int .i64 (x : Int), .int .i64 (y : Int), .int .i64 z] w fun e w' => e = .returned (.tuple #[]) ∧ Zm w' B gb gt gl n ct W H r pc pu (zst W H r s (x, y, z)) ∧ Below B w w' ∧ w'.heap[gl]? = w.heap[gl]? := by
  obtain ⟨ov, hv, hro, hnb⟩ := hZ.out
  obtain ⟨go, oc, rfl, hgo1, hgo2⟩ : ∃ g cap, ov = .slice (some ⟨g, 0, none⟩) (1 + 4 * s.ps.length) cap ∧ B ≤ g ∧ g < w.heap.size := by
    rcases hro.2 with ⟨_, h1⟩ | ⟨g, cap, cur, hv, hB, hh, r⟩
    · omega
    · exact ⟨g, cap, hv, hB, (Array.getElem?_eq_some_iff.1 hh).1⟩
  have htp := hZ.tops
  have hgt : gt < w.heap.size := (World.ownsRow.lt htp gt rfl).2
  have hnb' := hnb go rfl
  have hmm : ∀ cs : List Nat, hi s.T cs ≤ z ∨ ¬ hi s.T cs ≤ z := fun _ => Classical.em _
  have HZN : Hid (zst W H r s (x, y, z) = if hi s.T (cols W H r x y) ≤ z then s else if 2000 < 1 + 4 * s.ps.length then s else ⟨mins s.T (cols W H r x y) z, s.ps ++ [(x, y, z)]⟩) := hide rfl
  have HC := hide (fun (X : World) => colM_any W H r x y pu n pc X hW hH hr hx hy)
  have HCL := hide (fun (i : Nat) (hi : i ∈ cols W H r x y) => cols_lt (W := W) (H := H) hr (by omega) hi)
  have HAH := hide (fun cs => any_hi s.T cs z hz0)
  have HSN := hide (zcs_snoc s.ps x y z)
  have HZ := hide hZ
  have HV := hide hv
  have HRO := hide hro
  have HTP := hide htp
  have HT := hide hT
  have HN := hide hn
  obtain ⟨cs, hcs⟩ : ∃ cs, cols W H r x y = cs := ⟨_, rfl⟩
  rw [hcs] at HZN HC HCL
  obtain ⟨oy, hoy⟩ : ∃ oy, zoy s.ps s.ps.length = oy := ⟨_, rfl⟩
  rw [hoy] at HV HSN
  have k0 := (unhide HV).cell (m := 0) rfl
  have k1 := (unhide HV).cell (m := 1) rfl
  have k2 := (unhide HV).cell (m := 2) rfl
  have k3 := (unhide HV).cell (m := 3) rfl
  have hgb := (unhide HV).lt
  have HBS : Hid (B ≤ w.heap.size) := hide (by omega)
  unfold fldV at HC
  clear hcs hoy hZ hv hro htp hT hn hnb hmm
  go_enter Try.func43, Try.ntmps43
  go_wp2_with fail
  go_region_held3 (fun wx => wx.cell? ⟨gb, 0, none⟩ = some (.int .i64 (W : Int)) ∧ wx.cell? ⟨gb, 1, none⟩ = some (.int .i64 (H : Int)) ∧ wx.cell? ⟨gb, 2, none⟩ = some (.slice pu n pc) ∧ wx.cell? ⟨gb, 3, none⟩ = some (.int .i64 (r : Int)))
    (simp (maxDischargeDepth := 12) [go_sem, le1, lt1, *])
    (first
    | (go_at_call 79; refine (unhide HC _).mono ?_; rintro e W1 ⟨⟨lv, rfl, hlv, hlr⟩, hb1⟩; have HB1 := hide hb1; have HLV := hide hlv; have HLR := hide hlr; have y0 := keep1 hb1 (b := gb) (o := 0) k0; have y1 := keep1 hb1 (b := gb) (o := 1) k1; have y2 := keep1 hb1 (b := gb) (o := 2) k2; have y3 := keep1 hb1 (b := gb) (o := 3) k3; clear hb1 hlv hlr))
  obtain ⟨ql, cl, rfl, hql1, hql2, hcl1, hcl2⟩ := (unhide HLR).sm (unhide HLV)
  have HLI := hide (unhide HLR).ints
  have HBW : Hid (Below w.heap.size w W1) := hide (bc (Below.refl w.heap.size w).drew (unhide HB1))
  have HV1 := hide ((unhide HV).bel (unhide HBW))
  have HT1 := hide ((unhide HTP).below (unhide HBW))
  have HO1 := hide ((unhide HRO).belo (unhide HBW))
  have HQL : Hid (w.heap.size ≤ ql) := hide hql1
  have hW1s : w.heap.size ≤ W1.heap.size := (unhide HBW).size
  obtain ⟨m, hm⟩ : ∃ m, cs.length = m := ⟨_, rfl⟩
  rw [hm] at hcl1 ⊢
  have HM := hide hm
  have hml : m ≤ 9223372036854775807 := by unfold maxLen at hcl2; omega
  have HTL := hide (unhide HT).1
  clear k0 k1 k2 k3 y0 y1 y2 y3 HLR HLV HB1 hm hql1 HC
  go_wp2_with fail
  go_loopw [9, 10] (fun z9 zz X => ∃ i : Nat, zz = .int .i64 (i : Int) ∧ i ≤ m ∧ z9 = .bool ((cs.take i).any fun c => decide (z < tp s.T c)) ∧ Same W1 X) (fun _ zz _ => m - (intOf zz).toNat)
  case atStart => exact ⟨0, rfl, Nat.zero_le _, rfl, Same.refl _⟩
  case round =>
    obtain ⟨i, rfl, hii, rfl, hs⟩ := hrel
    have HS := hide hs
    by_cases h3 : i < m
    · have l1 : (i : Int) < (m : Int) := by omega
      have l0 : (0 : Int) ≤ (i : Int) := Int.natCast_nonneg _
      have lz : decide ((i : Int) < (m : Int)) = true := decide_eq_true l1
      obtain ⟨ci, hci⟩ := get_some (unhide HM) h3
      have c1 := (unhide HLI) i _ (nI_at hci)
      have hcl : ci < W * H := (unhide HCL) ci (List.mem_of_getElem? hci)
      have c2 := (unhide HT1).cellAt (tp_at (T := s.T) (i := ci) (by rw [unhide HTL, unhide HN]; exact hcl))
      have c4 := (unhide HV1).cell (m := 4) rfl
      rw [Nat.zero_add] at c1
      rw [← hs.cell] at c1 c2 c4
      have HAT := hide (any_take (fun c => decide (z < tp s.T c)) hci)
      have q1 : (ci : Int) < (n : Int) := by rw [unhide HN]; omega
      have q0 : (0 : Int) ≤ (ci : Int) := Int.natCast_nonneg _
      obtain ⟨tk, htk⟩ : ∃ tk, ((cs.take i).any fun c => decide (z < tp s.T c)) = tk := ⟨_, rfl⟩
      rw [htk] at HAT ⊢
      generalize tp s.T ci = tt at *
      clear hs hci hcl htk
      cases tk with
      | true =>
        go_wp2_with fail
        go_quiet (fail)
        go_wp2_with fail
        go_roundw
        case rel => exact ⟨i + 1, by simp, h3, by rw [unhide HAT]; rfl, by repeat (first | exact unhide HS | refine Same.drew ?_ | refine Same.dnz ?_ _)⟩
        case measure => simp only [intOf]; omega
      | false =>
        by_cases hzt : z < tt
        · have d1 : decide (z < tt) = true := decide_eq_true hzt
          go_wp2_with fail
          go_quiet (fail)
          go_wp2_with fail
          go_roundw
          case rel => exact ⟨i + 1, by simp, h3, by rw [unhide HAT]; simp [hzt], by repeat (first | exact unhide HS | refine Same.drew ?_ | refine Same.dnz ?_ _)⟩
          case measure => simp only [intOf]; omega
        · have d1 : decide (z < tt) = false := decide_eq_false hzt
          go_wp2_with fail
          go_quiet (fail)
          go_wp2_with fail
          go_roundw
          case rel => exact ⟨i + 1, by simp, h3, by rw [unhide HAT]; simp [hzt], by repeat (first | exact unhide HS | refine Same.drew ?_ | refine Same.dnz ?_ _)⟩
          case measure => simp only [intOf]; omega
    · have lz : decide ((i : Int) < (m : Int)) = false := decide_eq_false (by omega)
      have HE : Hid (((cs.take i).any fun c => decide (z < tp s.T c)) = !decide (hi s.T cs ≤ z)) := hide (by rw [List.take_of_length_le (by rw [unhide HM]; omega)]; exact unhide HAH cs)
      have HSB : Hid (Below W1.heap.size W1 wr) := hide hs.bel
      have HV2 := hide ((unhide HV1).bel (unhide HSB))
      have HT2 := hide ((unhide HT1).below (unhide HSB))
      have HO2 := hide ((unhide HO1).belo (unhide HSB))
      have HLI2 := hide ((unhide HLI).below (unhide HSB) hql2)
      have HBW2 := hide (bc (unhide HBW) (unhide HSB))
      have HZ2 := hide ((unhide HZ).bel (unhide HBW2))
      have hql3 : ql < wr.heap.size := Nat.lt_of_lt_of_le hql2 (unhide HSB).size
      rw [unhide HE]
      clear hs HS HE HSB HV1 HT1 HO1 HLI HBW
      by_cases hh : hi s.T cs ≤ z
      · have HZE : Hid (zst W H r s (x, y, z) = s) := hide (by rw [unhide HZN, if_pos hh])
        rw [show (!decide (hi s.T cs ≤ z)) = false by simp [hh]]
        clear hh
        go_wp2_with fail
        exact bodyPost_ret (v := .tuple #[]) (by simp [results, Try.results43, go_sem]) rfl ⟨rfl, by rw [unhide HZE]; exact unhide HZ2, (unhide HBW2).mono (unhide HBS), (unhide HBW2).block gl hgl⟩
      · rw [show (!decide (hi s.T cs ≤ z)) = true by simp [hh]]
        have c6 := (unhide HV2).cell (m := 6) rfl
        by_cases ho : 2000 < 1 + 4 * s.ps.length
        · have o1 : decide ((2000 : Int) < ((1 + 4 * s.ps.length : Nat) : Int)) = true := decide_eq_true (by omega)
          have HZE : Hid (zst W H r s (x, y, z) = s) := hide (by rw [unhide HZN, if_neg hh, if_pos ho])
          clear hh
          generalize 1 + 4 * s.ps.length = M at *
          go_wp2_with fail
          exact bodyPost_ret (v := .tuple #[]) (by simp [results, Try.results43, go_sem]) rfl ⟨rfl, by rw [unhide HZE]; exact unhide HZ2, (unhide HBW2).mono (unhide HBS), (unhide HBW2).block gl hgl⟩
        · have o1 : decide ((2000 : Int) < ((1 + 4 * s.ps.length : Nat) : Int)) = false := decide_eq_false (by omega)
          have HZE : Hid (zst W H r s (x, y, z) = ⟨mins s.T cs z, s.ps ++ [(x, y, z)]⟩) := hide (by rw [unhide HZN, if_neg hh, if_neg ho])
          have HPL : Hid (1 + 4 * (s.ps ++ [(x, y, z)]).length = 1 + 4 * s.ps.length + 4) := hide (by simp; omega)
          have hM : 1 + 4 * s.ps.length ≤ 2000 := by omega
          generalize 1 + 4 * s.ps.length = M at *
          clear hh ho
          go_wp2_with fail
          generalize hWo : wr = W2 at *
          clear hWo c6
          go_loopw [11] (fun zz X => ∃ i : Nat, zz = .int .i64 (i : Int) ∧ i ≤ m ∧ Row X B 3 1 (.slice (some ⟨gt, 0, none⟩) n ct) n (mins s.T (cs.take i) z) ∧ But gt W2 X) (fun zz _ => m - (intOf zz).toNat)
          case atStart => exact ⟨0, rfl, Nat.zero_le _, unhide HT2, But.refl _ _⟩
          case round =>
            obtain ⟨i, rfl, hii, hro, hbu⟩ := hrel
            have HRi := hide hro
            have HBi := hide hbu
            have hqt : ql ≠ gt := by have := unhide HQL; omega
            by_cases h6 : i < m
            · have l1 : (i : Int) < (m : Int) := by omega
              have l0 : (0 : Int) ≤ (i : Int) := Int.natCast_nonneg _
              have lz : decide ((i : Int) < (m : Int)) = true := decide_eq_true l1
              obtain ⟨ci, hcie⟩ := get_some (unhide HM) h6
              have c1 := ((unhide HLI2).blk (hbu.block ql hqt)) i _ (nI_at hcie)
              rw [Nat.zero_add] at c1
              have hcl : ci < n := by rw [unhide HN]; exact (unhide HCL) ci (List.mem_of_getElem? hcie)
              have hol : (mins s.T (cs.take i) z).length = n := by rw [mins_len, unhide HTL]
              have c2 := hro.cellAt (tp_at (T := mins s.T (cs.take i) z) (i := ci) (by omega))
              have HMT := hide (mins_take s.T z hcie)
              have c4 := vb.cell (show vb wr gb 77 _ from (hbu.block gb e1).trans (unhide HV2)) (m := 4) rfl
              have fz := hro.frz
              have q1 : (ci : Int) < (n : Int) := by omega
              have q0 : (0 : Int) ≤ (ci : Int) := Int.natCast_nonneg _
              generalize tp (mins s.T (cs.take i) z) ci = tt at *
              clear hro hbu hcie hol
              go_wp2_with fail
              go_region
              go_wp2_with fail
              go_roundw
              case rel =>
                refine ⟨i + 1, by simp, h6, ?_, ?_⟩
                · rw [unhide HMT]
                  exact Row.set (w := wr.drew) (unhide HRi) ci (by omega) (min tt z)
                · exact But.setCell (unhide HBi).drew _ _
              case measure => simp only [intOf]; omega
            · have lz : decide ((i : Int) < (m : Int)) = false := decide_eq_false (by omega)
              have HE : Hid (mins s.T (cs.take i) z = mins s.T cs z) := hide (by rw [List.take_of_length_le (by rw [unhide HM]; omega)])
              have HV3 : Hid (vb wr gb 77 _) := hide ((hbu.block gb e1).trans (unhide HV2))
              have HO3 : Hid (Mvs wr B (.slice (some ⟨go, 0, none⟩) M oc) M (zcs s.ps s.ps.length)) := hide ((unhide HO2).kept (fun b hb => hbu.block b (by simp only [Value.ownBlock, Option.some.injEq] at hb; rw [← hb]; exact hnb'.2.1)))
              have HT3 : Hid (Row wr B 3 1 (.slice (some ⟨gt, 0, none⟩) n ct) n (mins s.T cs z)) := hide (by rw [← unhide HE]; exact hro)
              have HB3 : Hid (Below B w wr) := hide (((unhide HBW2).mono (unhide HBS)).trans (hbu.bel hB2))
              have HG3 : Hid (wr.heap[gl]? = w.heap[gl]?) := hide ((hbu.block gl e3).trans ((unhide HBW2).block gl hgl))
              have hws : W2.heap.size = wr.heap.size := hbu.size
              have hw2 := (unhide HBW2).size
              clear hro hbu HE HRi HBi
              go_wp2_with fail
              refine Go.Code.wp_mono (Only.to (fun _ _ h => h)) (st11 (B := B) (m := M) (oy := oy) (cs := zcs s.ps s.ps.length) hM (by omega) (by omega) (by simp only [Value.ownBlock, ne_eq, Option.some.injEq]; exact hnb'.1) ((unhide HV3).frozen 6) (hide ((unhide HV3).cell (m := 5) rfl)) (hide ((unhide HV3).cell (m := 6) rfl)) HO3 (fun sb nv W4 hA => ?_))
              have HA := hide hA
              have hown : (Value.slice (some ⟨go, 0, none⟩) M oc).ownBlock = some go := rfl
              have hgo9 : ∀ b, b ≠ go → (Value.slice (some ⟨go, 0, none⟩) M oc).ownBlock ≠ some b := fun b hb h => hb (by rw [hown] at h; exact (Option.some.inj h).symm)
              have HV4 := hide (vb.set (show vb W4 gb 77 _ from (hA.keep gb (by omega) (hgo9 gb hnb'.1.symm)).trans (unhide HV3)) 6 nv)
              have c5 := (unhide HV4).cell (m := 5) rfl
              have f5 := (unhide HV4).frozen
              clear hA
              go_wp2_with fail
              have hA := unhide HA
              have hnvb : ∀ g, nv.ownBlock = some g → g ≠ gb ∧ g ≠ gt ∧ g ≠ gl := by
                intro g hg
                rcases hA.new g hg with h | h
                · rw [hown] at h
                  cases h
                  exact hnb'
                · exact ⟨by omega, by omega, by omega⟩
              refine bodyPost_end (v := .tuple #[]) (by simp [results, Try.results43, go_sem]) rfl ⟨rfl, ?_, ?_, ?_⟩
              · rw [unhide HZE]
                refine ⟨⟨nv, ?_, ?_, hnvb⟩, ?_⟩
                · show vb _ gb 77 [.int .i64 (W : Int), .int .i64 (H : Int), .slice pu n pc, .int .i64 (r : Int), .slice (some ⟨gt, 0, none⟩) n ct, .int .i64 (zoy (s.ps ++ [(x, y, z)]) (s.ps ++ [(x, y, z)]).length), nv]
                  rw [(unhide HSN).2]
                  exact (unhide HV4).set 5 _
                · show Mvs _ B nv (1 + 4 * (s.ps ++ [(x, y, z)]).length) (zcs (s.ps ++ [(x, y, z)]) (s.ps ++ [(x, y, z)]).length)
                  rw [(unhide HSN).1, unhide HPL]
                  exact hA.row.kept (fun g hg => (Below.heap_setCell _ _ _ _ (hnvb g hg).1).trans (Below.heap_setCell _ _ _ _ (hnvb g hg).1))
                · have hT4 : Row W4 B 3 1 (.slice (some ⟨gt, 0, none⟩) n ct) n (mins s.T cs z) := (unhide HT3).kept' (fun g hg => by
                    simp only [Value.ownBlock, Option.some.injEq] at hg
                    subst hg
                    exact hA.keep gt (by omega) (hgo9 gt hnb'.2.1.symm))
                  exact hT4.kept' (fun g hg => by
                    simp only [Value.ownBlock, Option.some.injEq] at hg
                    subst hg
                    exact (Below.heap_setCell _ _ _ _ e1.symm).trans (Below.heap_setCell _ _ _ _ e1.symm))
              · exact Below.setCell (Below.setCell ((unhide HB3).trans hA.bel) (by show B ≤ gb; omega) _) (by show B ≤ gb; omega) _
              · exact ((Below.heap_setCell _ _ _ _ e2).trans (Below.heap_setCell _ _ _ _ e2)).trans ((hA.keep gl (by omega) (hgo9 gl hnb'.2.2.symm)).trans (unhide HG3))
end Go.Proofs.Ytjhldjojkaphkaa

namespace Go.Proofs.Ytjhldjojkaphkaa
open Go.ChangeShapes Go.WideShapes Go.ChangeAt Go.RowKit
set_option linter.unusedVariables false
set_option linter.unusedSimpArgs false

theorem own_nil {W : World} {B p t k : Nat} (h : W.heap[p]? = some (.cells #[] t)) (hB : B ≤ p) : W.ownsRow B t k (.slice (some ⟨p, 0, none⟩) 0 0) 0 (([] : List Int).map (Value.int .i64)) :=
  ⟨by simp, .inr ⟨p, 0, #[], rfl, hB, h, Nat.le_refl _, by decide, by simp, by simp⟩⟩
theorem fd_cells {W : World} {g po n c : Nat} {L : List Int} (h : Fd W g po n c L) : ∀ (j : Nat) (u : Value), (L.map (Value.int .i64))[j]? = some u → W.cell? ((⟨g, po, none⟩ : Addr).add j) = some u := by
  intro j u hj
  rw [List.getElem?_map] at hj
  obtain ⟨x, hx, rfl⟩ := Option.map_eq_some_iff.1 hj
  rw [add_none]
  exact h.ints j x hx
noncomputable def reg10 (id : Nat) : Go.Code := match Try.f10.body with | some c => (regOf id c).getD .skip | none => .skip
set_option maxHeartbeats 4000000 in
set_option maxRecDepth 100000 in
theorem rg4 {s0 s1 s3 s6 s7 s8 s9 s10 s11 s12 s13 s14 s15 s16 s17 s18 s19 s20 s21 s22 s23 s24 s25 s26 s27 s28 s29 s30 s31 s32 s33 s34 s35 s36 s37 s38 s39 s40 s41 s42 s43 s44 s45 s46 s47 s48 s49 s50 s51 s52 s53 s54 s55 s56 s57 s58 s59 s60 s61 s62 s63 s64 s65 s66 s67 s68 s69 s70 s71 s72 s73 s74 s75 s76 s77 s78 s79 s80 s81 s82 s83 s84 s85 s86 s87 s88 s89 s90 s91 s92 s93 s94 s95 s96 s97 s98 s99 s100 s101 s102 s103 s104 s105 s106 s107 s108 s109 s110 s111 s112 s113 s114 s115 s116 s117 s118 s119 s120 s121 s122 s123 s124 s125 s126 s127 s128 s129 s130 s131 s132 s133 s134 s135 s136 s137 s138 s139 s140 s141 s142 s143 s144 s145 s146 s147 s148 s149 s150 s151 s152 s153 : Value} {b4 b5 W H n c g po g2 po2 c2 : Nat} {r : Nat} {A_ : List Int} {V : World} {K_ : Act → World → Prop} (hn1 : 1 ≤ n) (hn : n ≤ 576)
    (H4 : Hid (vb V b4 25 [.int .i64 (W : Int), .int .i64 (H : Int), .slice (some ⟨g, po, none⟩) n c])) (H5 : Hid (vb V b5 25 [.int .i64 (W : Int), .int .i64 (H : Int), .slice (some ⟨g2, po2, none⟩) n c2])) (HL : Hid (A_.length = n)) (HF : Hid (Fd V g po n c A_))
    (hQ : ∀ (eb gt ct ob gb : Nat) (X : World), Below V.heap.size V X → Row X V.heap.size 3 1 (.slice (some ⟨gt, 0, none⟩) n ct) n A_ → V.heap.size ≤ ob → vb X ob 65 (mvC true 0 0 24) → gt ≠ ob → vb X gb 77 [.int .i64 (W : Int), .int .i64 (H : Int), .slice (some ⟨g2, po2, none⟩) n c2, .int .i64 (r : Int), .slice (some ⟨gt, 0, none⟩) n ct, .int .i64 0, .slice (some ⟨ob, 0, none⟩) 1 1] → V.heap.size ≤ gb → gb ≠ ob → gb ≠ gt → K_ { tmps := #[s0, s1, .int .i64 (r : Int), s3, .pointer (some ⟨b4, 0, none⟩), .pointer (some ⟨b5, 0, none⟩), s6, s7, s8, s9, s10, .pointer (some ⟨gb, 0, none⟩), s12, s13, s14, s15, s16, s17, s18, s19, s20, s21, s22, s23, s24, s25, s26, s27, s28, s29, s30, s31, s32, s33, s34, s35, s36, s37, s38, .agg #[.int .i64 (W : Int), .int .i64 (H : Int), .slice (some ⟨g2, po2, none⟩) n c2], .int .i64 (r : Int), .slice (some ⟨eb, 0, none⟩) 0 0, .pointer (some ⟨b4, 2, none⟩), .slice (some ⟨g, po, none⟩) n c, .slice (some ⟨gt, 0, none⟩) n ct, .agg #[.bool true, .int .i64 0, .int .i64 0, .int .i64 24], .slice (some ⟨ob, 0, none⟩) 1 1, .agg #[.int .i64 (W : Int), .int .i64 (H : Int), .slice (some ⟨g2, po2, none⟩) n c2, .int .i64 (r : Int), .slice (some ⟨gt, 0, none⟩) n ct, .int .i64 0, .slice (some ⟨ob, 0, none⟩) 1 1], .pointer (some ⟨gb, 0, none⟩), s49, s50, s51, s52, s53, s54, s55, s56, s57, s58, s59, s60, s61, s62, s63, s64, s65, s66, s67, s68, s69, s70, s71, s72, s73, s74, s75, s76, s77, s78, s79, s80, s81, s82, s83, s84, s85, s86, s87, s88, s89, s90, s91, s92, s93, s94, s95, s96, s97, s98, s99, s100, s101, s102, s103, s104, s105, s106, s107, s108, s109, s110, s111, s112, s113, s114, s115, s116, s117, s118, s119, s120, s121, s122, s123, s124, s125, s126, s127, s128, s129, s130, s131, s132, s133, s134, s135, s136, s137, s138, s139, s140, s141, s142, s143, s144, s145, s146, s147, s148, s149, s150, s151, s152, s153], defers := [] } X) :
    Go.Code.wp Try.prog (reg10 4) (Only K_) { tmps := #[s0, s1, .int .i64 (r : Int), s3, .pointer (some ⟨b4, 0, none⟩), .pointer (some ⟨b5, 0, none⟩), s6, s7, s8, s9, s10, s11, s12, s13, s14, s15, s16, s17, s18, s19, s20, s21, s22, s23, s24, s25, s26, s27, s28, s29, s30, s31, s32, s33, s34, s35, s36, s37, s38, s39, s40, s41, s42, s43, s44, s45, s46, s47, s48, s49, s50, s51, s52, s53, s54, s55, s56, s57, s58, s59, s60, s61, s62, s63, s64, s65, s66, s67, s68, s69, s70, s71, s72, s73, s74, s75, s76, s77, s78, s79, s80, s81, s82, s83, s84, s85, s86, s87, s88, s89, s90, s91, s92, s93, s94, s95, s96, s97, s98, s99, s100, s101, s102, s103, s104, s105, s106, s107, s108, s109, s110, s111, s112, s113, s114, s115, s116, s117, s118, s119, s120, s121, s122, s123, s124, s125, s126, s127, s128, s129, s130, s131, s132, s133, s134, s135, s136, s137, s138, s139, s140, s141, s142, s143, s144, s145, s146, s147, s148, s149, s150, s151, s152, s153], defers := [] } V := by
  have HQ := hide hQ
  clear hQ
  obtain ⟨iP, hi1, hy0, hy1, hy2⟩ := info_parts int_info3
  conv => arg 2; whnf
  refine wp_region_inv (fun Lb A X => ∃ (u0 u1 u2 u3 u4 u5 u6 u7 u8 u9 u10 : Bool) (eb : Nat) (gt : Nat) (ct : Nat) (ob : Nat) (gb : Nat), Lb = #[u0, u1, u2, u3, u4, u5, u6, u7, u8, u9, u10] ∧ A = ({ tmps := #[s0, s1, .int .i64 (r : Int), s3, .pointer (some ⟨b4, 0, none⟩), .pointer (some ⟨b5, 0, none⟩), s6, s7, s8, s9, s10, (bif u10 then .pointer (some ⟨gb, 0, none⟩) else s11), s12, s13, s14, s15, s16, s17, s18, s19, s20, s21, s22, s23, s24, s25, s26, s27, s28, s29, s30, s31, s32, s33, s34, s35, s36, s37, s38, (bif u0 then .agg #[.int .i64 (W : Int), .int .i64 (H : Int), .slice (some ⟨g2, po2, none⟩) n c2] else s39), (bif u1 then .int .i64 (r : Int) else s40), (bif u2 then .slice (some ⟨eb, 0, none⟩) 0 0 else s41), (bif u3 then .pointer (some ⟨b4, 2, none⟩) else s42), (bif u4 then .slice (some ⟨g, po, none⟩) n c else s43), (bif u5 then .slice (some ⟨gt, 0, none⟩) n ct else s44), (bif u6 then .agg #[.bool true, .int .i64 0, .int .i64 0, .int .i64 24] else s45), (bif u7 then .slice (some ⟨ob, 0, none⟩) 1 1 else s46), (bif u8 then .agg #[.int .i64 (W : Int), .int .i64 (H : Int), .slice (some ⟨g2, po2, none⟩) n c2, .int .i64 (r : Int), .slice (some ⟨gt, 0, none⟩) n ct, .int .i64 0, .slice (some ⟨ob, 0, none⟩) 1 1] else s47), (bif u9 then .pointer (some ⟨gb, 0, none⟩) else s48), s49, s50, s51, s52, s53, s54, s55, s56, s57, s58, s59, s60, s61, s62, s63, s64, s65, s66, s67, s68, s69, s70, s71, s72, s73, s74, s75, s76, s77, s78, s79, s80, s81, s82, s83, s84, s85, s86, s87, s88, s89, s90, s91, s92, s93, s94, s95, s96, s97, s98, s99, s100, s101, s102, s103, s104, s105, s106, s107, s108, s109, s110, s111, s112, s113, s114, s115, s116, s117, s118, s119, s120, s121, s122, s123, s124, s125, s126, s127, s128, s129, s130, s131, s132, s133, s134, s135, s136, s137, s138, s139, s140, s141, s142, s143, s144, s145, s146, s147, s148, s149, s150, s151, s152, s153], defers := [] } : Act) ∧ Below V.heap.size V X ∧ (u2 = true → u5 = false → V.heap.size ≤ eb ∧ X.heap[eb]? = some (.cells #[] 3)) ∧ (u5 = true → Row X V.heap.size 3 1 (.slice (some ⟨gt, 0, none⟩) n ct) n A_) ∧ (u7 = true → V.heap.size ≤ ob ∧ vb X ob 65 (mvC true 0 0 24)) ∧ (u2 = true → u5 = false → u7 = true → eb ≠ ob) ∧ (u5 = true → u7 = true → gt ≠ ob) ∧ (u9 = true → vb X gb 77 [.int .i64 (W : Int), .int .i64 (H : Int), .slice (some ⟨g2, po2, none⟩) n c2, .int .i64 (r : Int), .slice (some ⟨gt, 0, none⟩) n ct, .int .i64 0, .slice (some ⟨ob, 0, none⟩) 1 1] ∧ V.heap.size ≤ gb ∧ gb ≠ ob ∧ gb ≠ gt) ∧ (u4 = true → u3 = true) ∧ (u5 = true → u2 = true ∧ u4 = true) ∧ (u7 = true → u6 = true) ∧ (u8 = true → u0 = true ∧ u1 = true ∧ u5 = true ∧ u7 = true) ∧ (u9 = true → u8 = true) ∧ (u10 = true → u0 = true ∧ u1 = true ∧ u2 = true ∧ u3 = true ∧ u4 = true ∧ u5 = true ∧ u6 = true ∧ u7 = true ∧ u8 = true ∧ u9 = true)) (by kernel_rfl) (by kernel_rfl) ?h0 ?hstep ?hend
  case h0 =>
    exact ⟨false, false, false, false, false, false, false, false, false, false, false, 0, 0, 0, 0, 0, rfl, rfl, Below.drew (Below.refl _ _), (fun h => nomatch h), (fun h => nomatch h), (fun h => nomatch h), (fun h => nomatch h), (fun h => nomatch h), (fun h => nomatch h), (fun h => nomatch h), (fun h => nomatch h), (fun h => nomatch h), (fun h => nomatch h), (fun h => nomatch h), (fun h => nomatch h)⟩
  case hstep =>
    rintro Lb A X ⟨u0, u1, u2, u3, u4, u5, u6, u7, u8, u9, u10, eb, gt, ct, ob, gb, rfl, rfl, kB, kE, kT, kO, kN, kM, kG, c4, c5, c7, c8, c9, kF⟩
    refine ⟨?_, ?_, ?_, ?_, ?_, ?_, ?_, ?_, ?_, ?_, ?_, trivial⟩
    · intro h0 hd K hK
      have z : u0 = false := h0
      have z10_ : u10 = false := by
        cases hu : u10 with
        | false => rfl
        | true => exact nomatch z.symm.trans ((kF hu).1)
      have H_kB := hide kB
      have H_kE := hide kE
      have H_kT := hide kT
      have H_kO := hide kO
      have H_kN := hide kN
      have H_kM := hide kM
      have H_kG := hide kG
      have H_c4 := hide c4
      have H_c5 := hide c5
      have H_c7 := hide c7
      have H_c8 := hide c8
      have H_c9 := hide c9
      have H_kF := hide kF
      clear kB kE kT kO kN kM kG c4 c5 c7 c8 c9 kF
      subst z10_
      subst z
      clear h0 hd
      rw [if_pos (by rfl)]
      have cc0 := keep1 (unhide H_kB) ((unhide H5).cell (m := 0) rfl)
      have cc1 := keep1 (unhide H_kB) ((unhide H5).cell (m := 1) rfl)
      have cc2 := keep1 (unhide H_kB) ((unhide H5).cell (m := 2) rfl)
      go_simp
      exact unhide hK _ _ ⟨true, u1, u2, u3, u4, u5, u6, u7, u8, u9, false, eb, gt, ct, ob, gb, rfl, rfl, unhide H_kB, unhide H_kE, unhide H_kT, unhide H_kO, unhide H_kN, unhide H_kM, unhide H_kG, unhide H_c4, unhide H_c5, unhide H_c7, (fun h => ⟨rfl, (unhide H_c8 h).2.1, (unhide H_c8 h).2.2.1, (unhide H_c8 h).2.2.2⟩), unhide H_c9, (fun h => nomatch h)⟩
    · intro h0 hd K hK
      have z : u1 = false := h0
      have z10_ : u10 = false := by
        cases hu : u10 with
        | false => rfl
        | true => exact nomatch z.symm.trans ((kF hu).2.1)
      have H_kB := hide kB
      have H_kE := hide kE
      have H_kT := hide kT
      have H_kO := hide kO
      have H_kN := hide kN
      have H_kM := hide kM
      have H_kG := hide kG
      have H_c4 := hide c4
      have H_c5 := hide c5
      have H_c7 := hide c7
      have H_c8 := hide c8
      have H_c9 := hide c9
      have H_kF := hide kF
      clear kB kE kT kO kN kM kG c4 c5 c7 c8 c9 kF
      subst z10_
      subst z
      clear h0 hd
      rw [if_pos (by rfl)]
      go_simp
      exact unhide hK _ _ ⟨u0, true, u2, u3, u4, u5, u6, u7, u8, u9, false, eb, gt, ct, ob, gb, rfl, rfl, unhide H_kB, unhide H_kE, unhide H_kT, unhide H_kO, unhide H_kN, unhide H_kM, unhide H_kG, unhide H_c4, unhide H_c5, unhide H_c7, (fun h => ⟨(unhide H_c8 h).1, rfl, (unhide H_c8 h).2.2.1, (unhide H_c8 h).2.2.2⟩), unhide H_c9, (fun h => nomatch h)⟩
    · intro h0 hd K hK
      have z : u2 = false := h0
      have z10_ : u10 = false := by
        cases hu : u10 with
        | false => rfl
        | true => exact nomatch z.symm.trans ((kF hu).2.2.1)
      have z5_ : u5 = false := by
        cases hu : u5 with
        | false => rfl
        | true => exact nomatch z.symm.trans ((c5 hu).1)
      have z9_ : u9 = false := by
        cases hu : u9 with
        | false => rfl
        | true => exact nomatch z.symm.trans ((c5 (c8 (c9 hu)).2.2.1).1)
      have H_kB := hide kB
      have H_kE := hide kE
      have H_kT := hide kT
      have H_kO := hide kO
      have H_kN := hide kN
      have H_kM := hide kM
      have H_kG := hide kG
      have H_c4 := hide c4
      have H_c5 := hide c5
      have H_c7 := hide c7
      have H_c8 := hide c8
      have H_c9 := hide c9
      have H_kF := hide kF
      clear kB kE kT kO kN kM kG c4 c5 c7 c8 c9 kF
      subst z10_
      subst z5_
      subst z9_
      subst z
      clear h0 hd
      rw [if_pos (by rfl)]
      go_simp
      exact unhide hK _ _ ⟨u0, u1, true, u3, u4, false, u6, u7, u8, false, false, X.heap.size, gt, ct, ob, gb, rfl, rfl, (ba (unhide H_kB) _), (fun _ _ => ⟨(unhide H_kB).size, heap_alloc_new X _⟩), (fun h => nomatch h), (fun h => ⟨(unhide H_kO h).1, (unhide H_kO h).2.bel (ba (Below.refl _ _) _)⟩), (fun _ _ h => by have := (unhide H_kO h).2.lt; omega), (fun h => nomatch h), (fun h => nomatch h), unhide H_c4, (fun h => nomatch h), unhide H_c7, unhide H_c8, (fun h => nomatch h), (fun h => nomatch h)⟩
    · intro h0 hd K hK
      have z : u3 = false := h0
      have z10_ : u10 = false := by
        cases hu : u10 with
        | false => rfl
        | true => exact nomatch z.symm.trans ((kF hu).2.2.2.1)
      have H_kB := hide kB
      have H_kE := hide kE
      have H_kT := hide kT
      have H_kO := hide kO
      have H_kN := hide kN
      have H_kM := hide kM
      have H_kG := hide kG
      have H_c4 := hide c4
      have H_c5 := hide c5
      have H_c7 := hide c7
      have H_c8 := hide c8
      have H_c9 := hide c9
      have H_kF := hide kF
      clear kB kE kT kO kN kM kG c4 c5 c7 c8 c9 kF
      subst z10_
      subst z
      clear h0 hd
      rw [if_pos (by rfl)]
      go_simp
      exact unhide hK _ _ ⟨u0, u1, u2, true, u4, u5, u6, u7, u8, u9, false, eb, gt, ct, ob, gb, rfl, rfl, unhide H_kB, unhide H_kE, unhide H_kT, unhide H_kO, unhide H_kN, unhide H_kM, unhide H_kG, (fun h => rfl), unhide H_c5, unhide H_c7, unhide H_c8, unhide H_c9, (fun h => nomatch h)⟩
    · intro h0 hd K hK
      have z : u4 = false := h0
      have z10_ : u10 = false := by
        cases hu : u10 with
        | false => rfl
        | true => exact nomatch z.symm.trans ((kF hu).2.2.2.2.1)
      have zd : u3 = true := by
        simp [Region.binds] at hd
        simp [hd]
      have H_kB := hide kB
      have H_kE := hide kE
      have H_kT := hide kT
      have H_kO := hide kO
      have H_kN := hide kN
      have H_kM := hide kM
      have H_kG := hide kG
      have H_c4 := hide c4
      have H_c5 := hide c5
      have H_c7 := hide c7
      have H_c8 := hide c8
      have H_c9 := hide c9
      have H_kF := hide kF
      clear kB kE kT kO kN kM kG c4 c5 c7 c8 c9 kF
      obtain ⟨rfl⟩ := zd
      subst z10_
      subst z
      clear h0 hd
      rw [if_pos (by rfl)]
      have cc2 := keep1 (unhide H_kB) ((unhide H4).cell (m := 2) rfl)
      go_simp
      exact unhide hK _ _ ⟨u0, u1, u2, true, true, u5, u6, u7, u8, u9, false, eb, gt, ct, ob, gb, rfl, rfl, unhide H_kB, unhide H_kE, unhide H_kT, unhide H_kO, unhide H_kN, unhide H_kM, unhide H_kG, (fun _ => rfl), (fun h => ⟨(unhide H_c5 h).1, rfl⟩), unhide H_c7, unhide H_c8, unhide H_c9, (fun h => nomatch h)⟩
    · intro h0 hd K hK
      have z : u5 = false := h0
      have z10_ : u10 = false := by
        cases hu : u10 with
        | false => rfl
        | true => exact nomatch z.symm.trans ((kF hu).2.2.2.2.2.1)
      have z8_ : u8 = false := by
        cases hu : u8 with
        | false => rfl
        | true => exact nomatch z.symm.trans ((c8 hu).2.2.1)
      have z9_ : u9 = false := by
        cases hu : u9 with
        | false => rfl
        | true => exact nomatch z.symm.trans ((c8 (c9 hu)).2.2.1)
      have zd : u2 = true ∧ u4 = true := by
        simp [Region.binds] at hd
        simp [hd]
      have H_kB := hide kB
      have H_kE := hide kE
      have H_kT := hide kT
      have H_kO := hide kO
      have H_kN := hide kN
      have H_kM := hide kM
      have H_kG := hide kG
      have H_c4 := hide c4
      have H_c5 := hide c5
      have H_c7 := hide c7
      have H_c8 := hide c8
      have H_c9 := hide c9
      have H_kF := hide kF
      clear kB kE kT kO kN kM kG c4 c5 c7 c8 c9 kF
      obtain ⟨rfl, rfl⟩ := zd
      subst z10_
      subst z8_
      subst z9_
      subst z
      clear h0 hd
      rw [if_pos (by rfl)]
      obtain ⟨hp1, hp2⟩ := unhide H_kE rfl rfl
      refine wp_append_new X (.tmp 41) (.tmp 43) 23 (by rfl) V.heap.size 3 iP _ 1 8 Try.underlying23 hi1 hy0 hy1 hy2 rfl (by omega) (.slice (some ⟨eb, 0, none⟩) 0 0) 0 (([] : List Int).map (Value.int .i64)) (by rfl) (own_nil hp2 hp1) ⟨g, po, none⟩ n c (A_.map (Value.int .i64)) (by rfl) (by simp [unhide HL]) (fd_cells ((unhide HF).bel (unhide H_kB))) ints_one (by unfold maxLen; omega) (by omega) (unhide H_kB).size ?_
      intro v1' w1 hown' hgrow hvn hnb
      have R := own_first (wr := X) (news := A_) (Below.refl _ _) (unhide H_kB).size hp1 hown' hgrow
      have hne : v1' ≠ .slice none 0 0 := fun e => by have := (hvn.1 e).1; cases this
      obtain ⟨gt1, ct1, hv1, hq1, hq2, _, _⟩ := R.1.sm hne
      subst hv1
      have hnn : ∀ b, u7 = true → b = ob → gt1 ≠ b := by
          intro b h7 hb e
          subst hb
          rcases hnb gt1 rfl with h | h
          · simp only [Value.ownBlock, Option.some.injEq] at h
            exact unhide H_kN rfl rfl h7 (h.trans e)
          · have := (unhide H_kO h7).2.lt
            omega
      have hko : u7 = true → V.heap.size ≤ ob ∧ vb w1 ob 65 (mvC true 0 0 24) := by
          intro h7
          obtain ⟨a1, a2⟩ := unhide H_kO h7
          refine ⟨a1, (hgrow.block ob a2.lt (fun e => ?_)).trans a2⟩
          simp only [Value.ownBlock, Option.some.injEq] at e
          exact unhide H_kN rfl rfl h7 e.symm
      exact unhide hK _ _ ⟨u0, u1, true, u3, true, true, u6, u7, false, false, false, eb, gt1, ct1, ob, gb, rfl, rfl, ((unhide H_kB).trans R.2), (fun _ h => nomatch h), (fun _ => R.1), hko, (fun _ h => nomatch h), (fun _ h => hnn ob h rfl), (fun h => nomatch h), unhide H_c4, (fun _ => ⟨rfl, rfl⟩), unhide H_c7, (fun h => nomatch h), (fun h => nomatch h), (fun h => nomatch h)⟩
    · intro h0 hd K hK
      have z : u6 = false := h0
      have z10_ : u10 = false := by
        cases hu : u10 with
        | false => rfl
        | true => exact nomatch z.symm.trans ((kF hu).2.2.2.2.2.2.1)
      have H_kB := hide kB
      have H_kE := hide kE
      have H_kT := hide kT
      have H_kO := hide kO
      have H_kN := hide kN
      have H_kM := hide kM
      have H_kG := hide kG
      have H_c4 := hide c4
      have H_c5 := hide c5
      have H_c7 := hide c7
      have H_c8 := hide c8
      have H_c9 := hide c9
      have H_kF := hide kF
      clear kB kE kT kO kN kM kG c4 c5 c7 c8 c9 kF
      subst z10_
      subst z
      clear h0 hd
      rw [if_pos (by rfl)]
      go_simp
      exact unhide hK _ _ ⟨u0, u1, u2, u3, u4, u5, true, u7, u8, u9, false, eb, gt, ct, ob, gb, rfl, rfl, unhide H_kB, unhide H_kE, unhide H_kT, unhide H_kO, unhide H_kN, unhide H_kM, unhide H_kG, unhide H_c4, unhide H_c5, (fun h => rfl), unhide H_c8, unhide H_c9, (fun h => nomatch h)⟩
    · intro h0 hd K hK
      have z : u7 = false := h0
      have z10_ : u10 = false := by
        cases hu : u10 with
        | false => rfl
        | true => exact nomatch z.symm.trans ((kF hu).2.2.2.2.2.2.2.1)
      have z8_ : u8 = false := by
        cases hu : u8 with
        | false => rfl
        | true => exact nomatch z.symm.trans ((c8 hu).2.2.2)
      have z9_ : u9 = false := by
        cases hu : u9 with
        | false => rfl
        | true => exact nomatch z.symm.trans ((c8 (c9 hu)).2.2.2)
      have zd : u6 = true := by
        simp [Region.binds] at hd
        simp [hd]
      have H_kB := hide kB
      have H_kE := hide kE
      have H_kT := hide kT
      have H_kO := hide kO
      have H_kN := hide kN
      have H_kM := hide kM
      have H_kG := hide kG
      have H_c4 := hide c4
      have H_c5 := hide c5
      have H_c7 := hide c7
      have H_c8 := hide c8
      have H_c9 := hide c9
      have H_kF := hide kF
      clear kB kE kT kO kN kM kG c4 c5 c7 c8 c9 kF
      obtain ⟨rfl⟩ := zd
      subst z10_
      subst z8_
      subst z9_
      subst z
      clear h0 hd
      rw [if_pos (by rfl)]
      go_simp
      exact unhide hK _ _ ⟨u0, u1, u2, u3, u4, u5, true, true, false, false, false, eb, gt, ct, X.heap.size, gb, rfl, rfl, (ba (unhide H_kB) _), (fun h1 h2 => ⟨(unhide H_kE h1 h2).1, (Below.heap_alloc _ _ _ (Array.getElem?_eq_some_iff.1 (unhide H_kE h1 h2).2).1).trans (unhide H_kE h1 h2).2⟩), (fun h => (unhide H_kT h).below (ba (Below.refl _ _) _)), (fun _ => ⟨(unhide H_kB).size, vb_new X 65 (mvC true 0 0 24) _ rfl⟩), (fun h1 h2 _ => by have := (Array.getElem?_eq_some_iff.1 (unhide H_kE h1 h2).2).1; omega), (fun h _ => by have := (World.ownsRow.lt (unhide H_kT h) gt rfl).2; omega), (fun h => nomatch h), unhide H_c4, unhide H_c5, (fun _ => rfl), (fun h => nomatch h), (fun h => nomatch h), (fun h => nomatch h)⟩
    · intro h0 hd K hK
      have z : u8 = false := h0
      have z10_ : u10 = false := by
        cases hu : u10 with
        | false => rfl
        | true => exact nomatch z.symm.trans ((kF hu).2.2.2.2.2.2.2.2.1)
      have zd : u0 = true ∧ u1 = true ∧ u5 = true ∧ u7 = true := by
        simp [Region.binds] at hd
        simp [hd]
      have H_kB := hide kB
      have H_kE := hide kE
      have H_kT := hide kT
      have H_kO := hide kO
      have H_kN := hide kN
      have H_kM := hide kM
      have H_kG := hide kG
      have H_c4 := hide c4
      have H_c5 := hide c5
      have H_c7 := hide c7
      have H_c8 := hide c8
      have H_c9 := hide c9
      have H_kF := hide kF
      clear kB kE kT kO kN kM kG c4 c5 c7 c8 c9 kF
      obtain ⟨rfl, rfl, rfl, rfl⟩ := zd
      subst z10_
      subst z
      clear h0 hd
      rw [if_pos (by rfl)]
      go_simp
      exact unhide hK _ _ ⟨true, true, u2, u3, u4, true, u6, true, true, u9, false, eb, gt, ct, ob, gb, rfl, rfl, unhide H_kB, unhide H_kE, unhide H_kT, unhide H_kO, unhide H_kN, unhide H_kM, unhide H_kG, unhide H_c4, unhide H_c5, unhide H_c7, (fun _ => ⟨rfl, rfl, rfl, rfl⟩), (fun h => rfl), (fun h => nomatch h)⟩
    · intro h0 hd K hK
      have z : u9 = false := h0
      have z10_ : u10 = false := by
        cases hu : u10 with
        | false => rfl
        | true => exact nomatch z.symm.trans ((kF hu).2.2.2.2.2.2.2.2.2)
      have zd : u8 = true := by
        simp [Region.binds] at hd
        simp [hd]
      have H_kB := hide kB
      have H_kE := hide kE
      have H_kT := hide kT
      have H_kO := hide kO
      have H_kN := hide kN
      have H_kM := hide kM
      have H_kG := hide kG
      have H_c4 := hide c4
      have H_c5 := hide c5
      have H_c7 := hide c7
      have H_c8 := hide c8
      have H_c9 := hide c9
      have H_kF := hide kF
      clear kB kE kT kO kN kM kG c4 c5 c7 c8 c9 kF
      obtain ⟨rfl⟩ := zd
      subst z10_
      subst z
      obtain ⟨e0_, e1_, e5_, e7_⟩ := unhide H_c8 rfl
      subst e0_; subst e1_; subst e5_; subst e7_
      clear h0 hd
      rw [if_pos (by rfl)]
      go_simp
      exact unhide hK _ _ ⟨true, true, u2, u3, u4, true, u6, true, true, true, false, eb, gt, ct, ob, X.heap.size, rfl, rfl, (ba (unhide H_kB) _), (fun _ h => nomatch h), (fun h => (unhide H_kT h).below (ba (Below.refl _ _) _)), (fun h => ⟨(unhide H_kO h).1, (unhide H_kO h).2.bel (ba (Below.refl _ _) _)⟩), unhide H_kN, unhide H_kM, (fun _ => ⟨vb_new X 77 _ _ rfl, (unhide H_kB).size, (by have := (unhide H_kO rfl).2.lt; omega), (by have := (World.ownsRow.lt (unhide H_kT rfl) gt rfl).2; omega)⟩), unhide H_c4, unhide H_c5, unhide H_c7, unhide H_c8, (fun _ => rfl), (fun h => nomatch h)⟩
    · intro h0 hd K hK
      have z : u10 = false := h0
      have zd : u9 = true ∧ u0 = true ∧ u1 = true ∧ u2 = true ∧ u3 = true ∧ u4 = true ∧ u5 = true ∧ u6 = true ∧ u7 = true ∧ u8 = true := by
        simp [Region.binds] at hd
        simp_all
      have H_kB := hide kB
      have H_kE := hide kE
      have H_kT := hide kT
      have H_kO := hide kO
      have H_kN := hide kN
      have H_kM := hide kM
      have H_kG := hide kG
      have H_c4 := hide c4
      have H_c5 := hide c5
      have H_c7 := hide c7
      have H_c8 := hide c8
      have H_c9 := hide c9
      have H_kF := hide kF
      clear kB kE kT kO kN kM kG c4 c5 c7 c8 c9 kF
      obtain ⟨rfl, rfl, rfl, rfl, rfl, rfl, rfl, rfl, rfl, rfl⟩ := zd
      subst z
      clear h0 hd
      rw [if_pos (by rfl)]
      go_simp
      exact unhide hK _ _ ⟨true, true, true, true, true, true, true, true, true, true, true, eb, gt, ct, ob, gb, rfl, rfl, unhide H_kB, unhide H_kE, unhide H_kT, unhide H_kO, unhide H_kN, unhide H_kM, unhide H_kG, (fun _ => rfl), (fun _ => ⟨rfl, rfl⟩), (fun _ => rfl), (fun _ => ⟨rfl, rfl, rfl, rfl⟩), (fun _ => rfl), (fun _ => ⟨rfl, rfl, rfl, rfl, rfl, rfl, rfl, rfl, rfl, rfl⟩)⟩
  case hend =>
    rintro Lb A X ⟨u0, u1, u2, u3, u4, u5, u6, u7, u8, u9, u10, eb, gt, ct, ob, gb, rfl, rfl, kB, kE, kT, kO, kN, kM, kG, c4, c5, c7, c8, c9, kF⟩ hL
    have hl : u0 = true ∧ u1 = true ∧ u2 = true ∧ u3 = true ∧ u4 = true ∧ u5 = true ∧ u6 = true ∧ u7 = true ∧ u8 = true ∧ u9 = true ∧ u10 = true := by
      have h2 := congrArg Array.toList hL
      simpa [List.replicate] using h2
    obtain ⟨rfl, rfl, rfl, rfl, rfl, rfl, rfl, rfl, rfl, rfl, rfl⟩ := hl
    exact unhide HQ eb gt ct ob gb X kB (kT rfl) (kO rfl).1 (kO rfl).2 (kM rfl rfl) (kG rfl).1 (kG rfl).2.1 (kG rfl).2.2.1 (kG rfl).2.2.2
end Go.Proofs.Ytjhldjojkaphkaa

namespace Go.Proofs.Ytjhldjojkaphkaa
open Go.ChangeShapes Go.WideShapes Go.ChangeAt Go.RowKit
set_option linter.unusedVariables false
set_option linter.unusedSimpArgs false

set_option maxHeartbeats 2000000 in
set_option maxRecDepth 100000 in
theorem lvM_any (s : Nat) (w : World) (hs1 : 1 ≤ s) (hs : s ≤ 24) :
    Calls Try.prog 42 #[.int .i64 (s : Int)] w fun e w' => (∃ v, e = .returned v ∧ v ≠ .slice none 0 0 ∧ Row w' w.heap.size 3 1 v (lvn s) (lvls s)) ∧ Below w.heap.size w w' := by
  obtain ⟨iP, hi1, hy0, hy1, hy2⟩ := info_parts int_info3
  have HIF := hide (fun k => lvn_iff (s := s) (k := k) hs1)
  have HLE := hide (lvn_le (s := s) hs1)
  have HB := hide (ba (Below.refl w.heap.size w) (.cells #[] 3))
  have HR0 : Hid (Row (w.alloc (.cells #[] 3)) w.heap.size 3 1 (.slice (some ⟨w.heap.size, 0, none⟩) 0 0) 0 []) := hide (row_made _ 3 _ 1 (by simp) _ (by simp))
  go_enter Try.func42, Try.ntmps42
  go_wp2_with fail
  go_loopw [3, 4] (fun z3 z X => ∃ k : Nat, z = .int .i64 (24 - (s : Int) * ((k : Int) + 1)) ∧ k + 1 ≤ lvn s ∧ z3 ≠ .slice none 0 0 ∧ Row X w.heap.size 3 1 z3 k ((List.range k).map (lvl s)) ∧ Below w.heap.size w X) (fun _ z _ => (intOf z).toNat)
  case atStart => exact ⟨0, by simp, by have := (unhide HIF 0).2 (by simp); omega, by simp, unhide HR0, unhide HB⟩
  case round =>
    obtain ⟨k, rfl, hk, hz3, hro, hw⟩ := hrel
    have HZ3 := hide hz3
    have HRO := hide hro
    have HW := hide hw
    have HSZ : Hid (w.heap.size ≤ wr.heap.size) := hide hw.size
    have hk24 := unhide HLE
    have hkn : (s : Int) * ((k : Int) + 1) = ((s * (k + 1) : Nat) : Int) := by simp
    have HKN : Hid ((k + 1 < lvn s) ↔ s * (k + 1) < 24) := hide (unhide HIF (k + 1))
    have hsk : s * (k + 1) ≤ 24 * 24 := Nat.mul_le_mul hs (by omega)
    have HLV : Hid (lvl s k = max 0 (24 - (s : Int) * ((k : Int) + 1))) := hide rfl
    have HS1 : Hid ((s : Int) * (((k + 1 : Nat) : Int) + 1) = (s : Int) * ((k : Int) + 1) + (s : Int)) := hide (by rw [Int.mul_add, Int.mul_add, Int.natCast_add, Int.mul_add]; simp)
    rw [hkn] at HLV HS1 ⊢
    obtain ⟨q, hq⟩ : ∃ q, s * (k + 1) = q := ⟨_, rfl⟩
    rw [hq] at HKN hsk HLV HS1 ⊢
    clear hz3 hro hw hkn hq
    by_cases h : q < 24
    · have g1 : (24 : Int) - (q : Int) > 0 := by omega
      have g2 : decide ((0 : Int) < (24 : Int) - (q : Int)) = true := decide_eq_true (by omega)
      have HLQ : Hid (lvl s k = 24 - (q : Int)) := hide (by rw [unhide HLV]; omega)
      have hk2 : k + 1 < lvn s := (unhide HKN).2 h
      go_wp2_with (at_builtin; refine unhide ?_)
      refine hide ?_
      refine wpList_append_own _ rfl _ _ 23 rfl w.heap.size 3 iP _ 1 8 Try.underlying23 hi1 hy0 hy1 hy2 rfl (by decide) _ k (((List.range k).map (lvl s)).map (Value.int .i64)) rfl ((unhide HRO).alloc _) _ 1 1 ([24 - (q : Int)].map (Value.int .i64)) rfl rfl (by first | exact news_cells _ _ rfl | exact news_cells _ _ (by simp)) ints_one (by unfold maxLen; omega) (by omega) (by first | (have := unhide HSZ; omega) | (have := unhide HSZ; simp; omega)) ?_
      intro v1 w1 hown' hgrow hvn1
      have R1 := own_more (wr := wr) (news := [24 - (q : Int)]) (by repeat (first | exact Below.refl _ _ | refine Below.alloc ?_ (by first | exact unhide HSZ | (simp; exact unhide HSZ)) _ | refine Below.drew ?_)) (by first | exact Nat.le_trans (unhide HSZ) (by simp) | (have := unhide HSZ; simp; omega) | (have := unhide HSZ; omega)) (unhide HRO) hown' hgrow
      have HR6 := hide R1.1
      have HN6 : Hid (v1 ≠ .slice none 0 0) := hide (fun e => by have := (hvn1.1 e).2; omega)
      have HW6 := hide ((unhide HW).trans R1.2)
      clear hown' hgrow hvn1 R1
      go_wp2_with fail
      go_roundw
      case rel =>
        refine ⟨k + 1, ?_, hk2, unhide HN6, ?_, unhide HW6⟩
        · rw [unhide HS1]; simp only [Value.int.injEq, true_and]; omega
        · rw [List.range_succ, List.map_append, List.map_cons, List.map_nil, unhide HLQ]; exact unhide HR6
      case measure => simp only [intOf]; omega
    · have g2 : decide ((0 : Int) < (24 : Int) - (q : Int)) = false := decide_eq_false (by omega)
      have HLQ : Hid (lvl s k = 0) := hide (by rw [unhide HLV]; omega)
      have hk2 : ¬ k + 1 < lvn s := fun h2 => h ((unhide HKN).1 h2)
      go_wp2_with (at_builtin; refine unhide ?_)
      refine hide ?_
      refine wpList_append_own _ rfl _ _ 23 rfl w.heap.size 3 iP _ 1 8 Try.underlying23 hi1 hy0 hy1 hy2 rfl (by decide) _ k (((List.range k).map (lvl s)).map (Value.int .i64)) rfl ((unhide HRO).alloc _) _ 1 1 ([(0 : Int)].map (Value.int .i64)) rfl rfl (by first | exact news_cells _ _ rfl | exact news_cells _ _ (by simp)) ints_one (by unfold maxLen; omega) (by omega) (by first | (have := unhide HSZ; omega) | (have := unhide HSZ; simp; omega)) ?_
      intro v1 w1 hown' hgrow hvn1
      have R1 := own_more (wr := wr) (news := [(0 : Int)]) (by repeat (first | exact Below.refl _ _ | refine Below.alloc ?_ (by first | exact unhide HSZ | (simp; exact unhide HSZ)) _ | refine Below.drew ?_)) (by first | exact Nat.le_trans (unhide HSZ) (by simp) | (have := unhide HSZ; simp; omega) | (have := unhide HSZ; omega)) (unhide HRO) hown' hgrow
      have HR6 := hide R1.1
      have HN6 : Hid (v1 ≠ .slice none 0 0) := hide (fun e => by have := (hvn1.1 e).2; omega)
      have HW6 := hide ((unhide HW).trans R1.2)
      clear hown' hgrow hvn1 R1
      go_wp2_with fail
      go_ret
      refine ⟨⟨_, rfl, unhide HN6, ?_⟩, unhide HW6⟩
      have e1 : lvn s = k + 1 := by omega
      unfold lvls
      rw [e1, List.range_succ, List.map_append, List.map_cons, List.map_nil, unhide HLQ]
      exact unhide HR6
end Go.Proofs.Ytjhldjojkaphkaa

namespace Go.Proofs.Ytjhldjojkaphkaa
open Go.ChangeShapes Go.WideShapes Go.ChangeAt Go.RowKit
set_option linter.unusedVariables false
set_option linter.unusedSimpArgs false

set_option maxHeartbeats 2000000 in
theorem prM_any (R W H : Int) (u : Option Addr) (p po n c : Nat) (A : List Int) (W' H' : Int) (u' : Option Addr) (p' po' n' c' : Nat) (B : List Int) (w : World)
    (hl : A.length = n) (hn : n ≤ 9223372036854775807) (hu : Its w u p po A) (hl' : B.length = n') (hn' : n' ≤ 9223372036854775807) (hu' : Its w u' p' po' B) :
    Calls Try.prog 33 #[fldV W H u n c, fldV W' H' u' n' c', .int .i64 R] w fun e w' => e = .returned (.bool (stB W H A W' H' B && (decide (0 ≤ R) && decide (R ≤ 3)))) ∧ Below w.heap.size w w' := by
  have HB := hide (boxs w W H u n c W' H' u' n' c')
  have HA := hide (fun X (hX : Below w.heap.size w X) => fokM_any W H u p po n c A X hl hn (hu.bel hX))
  have HC := hide (fun X (hX : Below w.heap.size w X) => fokM_any W' H' u' p' po' n' c' B X hl' hn' (hu'.bel hX))
  have HTL := hide (fun X => tlM_any R X)
  have HV := hide (vb_new2 w 25 [.int .i64 W', .int .i64 H', .slice u' n' c'] (.cells #[.int .i64 W, .int .i64 H, .slice u n c] 25))
  have HV0 := hide (vb_new1 w 25 [.int .i64 W, .int .i64 H, .slice u n c] (.cells #[.int .i64 W', .int .i64 H', .slice u' n' c'] 25))
  have HUA0 := hide hu
  have HUB0 := hide hu'
  have HLA := hide hl
  have HLB := hide hl'
  have n0 : (0 : Int) ≤ (n' : Int) := Int.natCast_nonneg _
  by_cases hp : FPair W H A W' H' B
  · rw [show fokB W H A = true from decide_eq_true hp.a] at HA
    rw [show fokB W' H' B = true from decide_eq_true hp.b] at HC
    have t1 : (W != W') = false := by simp [hp.w]
    have t2 : (H != H') = false := by simp [hp.h]
    have HSB : Hid (stB W H A W' H' B = under A B) := hide (by unfold stB; rw [show pairB W H A W' H' B = true from decide_eq_true hp, Bool.true_and])
    have HLE : Hid (n' = n) := hide (by have := hp.len; omega)
    have HNS : Hid (n ≤ 576) := hide (by have := hp.a.small; omega)
    have hns : n' ≤ 576 := by have := unhide HNS; have := unhide HLE; omega
    clear hp hl hl' hu hu'
    unfold fldV at *
    generalize (decide (0 ≤ R) && decide (R ≤ 3)) = rb at *
    go_enter Try.func33, Try.ntmps33
    go_wp2_with fail
    refine (unhide HA _ (unhide HB)).mono ?_
    rintro e W1 ⟨rfl, hb1⟩
    have v1 := (unhide HV).bel hb1
    have k0 := v1.cell (m := 0) rfl
    have k1 := v1.cell (m := 1) rfl
    have k2 := v1.cell (m := 2) rfl
    have HV1 := hide v1
    have HV01 := hide ((unhide HV0).bel hb1)
    have HB1 := hide (bc (unhide HB) hb1)
    clear hb1 v1
    go_wp2_with fail
    refine (unhide HC _ (unhide HB1)).mono ?_
    rintro e W0 ⟨rfl, hb2⟩
    have v1 := (unhide HV1).bel hb2
    have j0 := v1.cell (m := 0) rfl
    have j1 := v1.cell (m := 1) rfl
    have v2 := (unhide HV01).bel hb2
    have i0 := v2.cell (m := 0) rfl
    have i1 := v2.cell (m := 1) rfl
    have HVB := hide v1
    have HVA := hide v2
    have HBB := hide (bc (unhide HB1) hb2)
    have HUA := hide ((unhide HUA0).bel (unhide HBB))
    have HUB := hide ((unhide HUB0).bel (unhide HBB))
    clear hb2 v1 v2 k0 k1 k2
    go_wp2_with fail
    refine (unhide HTL _).mono ?_
    rintro e W0' ⟨rfl, rfl⟩
    cases rb with
    | false =>
      have HSE : Hid ((stB W H A W' H' B && false) = false) := hide (by simp)
      go_wp2_with fail
      go_ret
      exact ⟨by rw [unhide HSE]; first | done | rfl, unhide HBB⟩
    | true =>
    have HSE : Hid ((stB W H A W' H' B && true) = under A B) := hide (by rw [unhide HSB, Bool.and_true])
    go_wp2_with fail
    clear j0 j1 i0 i1
    generalize hW9 : W0' = W0 at *
    clear hW9
    go_loopw [7] (fun z X => ∃ i : Nat, z = .int .i64 (i : Int) ∧ i ≤ n' ∧ (∀ j, j < i → tp B j ≤ tp A j) ∧ Same W0 X) (fun z _ => n' - (intOf z).toNat)
    case atStart => exact ⟨0, rfl, Nat.zero_le _, fun j hj => by omega, Same.refl _⟩
    case round =>
      obtain ⟨i, rfl, hi, hall, hw⟩ := hrel
      have HAL := hide hall
      have k2 := (unhide HVA).cell (m := 2) rfl
      rw [← hw.cell] at k2
      have l2 := (unhide HVB).cell (m := 2) rfl
      rw [← hw.cell] at l2
      by_cases h : i < n'
      · have i1 : (i : Int) < (n' : Int) := by omega
        have i0 : (0 : Int) ≤ (i : Int) := Int.natCast_nonneg _
        have iz : decide ((i : Int) < (n' : Int)) = true := decide_eq_true i1
        have i2 : (i : Int) < (n : Int) := by have := unhide HLE; omega
        have hxa := tp_at (T := A) (i := i) (by have := unhide HLA; omega)
        have hxb := tp_at (T := B) (i := i) (by have := unhide HLB; omega)
        obtain ⟨rfl, pw, c0⟩ := (unhide HUA).at hxa
        obtain ⟨rfl, qw, d0⟩ := (unhide HUB).at hxb
        rw [← hw.cell] at c0 d0
        have HW := hide hw
        clear pw qw hxa hxb hw hall
        by_cases hlt : tp A i < tp B i
        · have HU : Hid (under A B = false) := hide (under_no (S := A) (P := B) (i := i) (by have := unhide HLB; omega) (by omega))
          generalize tp A i = x at *
          generalize tp B i = y at *
          have t1 := decide_eq_true hlt
          go_wp2_with fail
          first | go_quiet (fail) | skip
          go_wp2_with fail
          go_ret
          exact ⟨by rw [unhide HSE, unhide HU]; first | done | rfl, by repeat (first | exact bc (unhide HBB) (unhide HW).bel | refine bel_dn' ?_ _ | refine Below.drew ?_)⟩
        · have HNX : Hid (∀ j, j < i + 1 → tp B j ≤ tp A j) := hide (fun j hj => by
            by_cases e : j = i
            · subst e; omega
            · exact (unhide HAL) j (by omega))
          generalize tp A i = x at *
          generalize tp B i = y at *
          have t1 := decide_eq_false hlt
          go_wp2_with fail
          first | go_quiet (fail) | skip
          go_wp2_with fail
          go_roundw
          case rel => exact ⟨i + 1, by simp, h, unhide HNX, by repeat (first | exact unhide HW | refine Same.dnx ?_ _ | refine Same.drew ?_)⟩
          case measure => simp only [intOf]; omega
      · have iz : decide ((i : Int) < (n' : Int)) = false := decide_eq_false (by omega)
        have HU : Hid (under A B = true) := hide (under_iff.2 (fun j hj => (unhide HAL) j (by have := unhide HLB; omega)))
        have HW := hide hw
        clear hw hall
        go_wp2_with fail
        go_ret
        exact ⟨by rw [unhide HSE, unhide HU]; first | done | rfl, bc (unhide HBB) (unhide HW).bel⟩
  · have HSE : Hid ((stB W H A W' H' B && (decide (0 ≤ R) && decide (R ≤ 3))) = false) := hide (by unfold stB; rw [show pairB W H A W' H' B = false from decide_eq_false hp]; simp)
    have HSP : Hid ((fokB W H A && fokB W' H' B && decide (W = W') && decide (H = H')) = false) := hide (by rw [← pairB_split]; exact decide_eq_false hp)
    clear hp hl hl' hu hu'
    unfold fldV at *
    rw [unhide HSE]
    generalize fokB W H A = ba at *
    generalize fokB W' H' B = bb at *
    go_enter Try.func33, Try.ntmps33
    go_wp2_with fail
    refine (unhide HA _ (unhide HB)).mono ?_
    rintro e W1 ⟨rfl, hb1⟩
    have v1 := (unhide HV).bel hb1
    have k0 := v1.cell (m := 0) rfl
    have k1 := v1.cell (m := 1) rfl
    have k2 := v1.cell (m := 2) rfl
    have HV1 := hide v1
    have HV01 := hide ((unhide HV0).bel hb1)
    have HB1 := hide (bc (unhide HB) hb1)
    clear hb1 v1
    cases ba with
    | false =>
      go_wp2_with fail
      go_ret
      exact ⟨rfl, unhide HB1⟩
    | true =>
    go_wp2_with fail
    refine (unhide HC _ (unhide HB1)).mono ?_
    rintro e W0 ⟨rfl, hb2⟩
    have v1 := (unhide HV1).bel hb2
    have j0 := v1.cell (m := 0) rfl
    have j1 := v1.cell (m := 1) rfl
    have v2 := (unhide HV01).bel hb2
    have i0 := v2.cell (m := 0) rfl
    have i1 := v2.cell (m := 1) rfl
    have HVB := hide v1
    have HVA := hide v2
    have HBB := hide (bc (unhide HB1) hb2)
    have HUA := hide ((unhide HUA0).bel (unhide HBB))
    have HUB := hide ((unhide HUB0).bel (unhide HBB))
    clear hb2 v1 v2 k0 k1 k2
    cases bb with
    | false =>
      go_wp2_with fail
      go_ret
      exact ⟨rfl, unhide HBB⟩
    | true =>
    by_cases e1 : W = W'
    · have e2 : ¬ H = H' := fun e2 => by have := unhide HSP; simp [e1, e2] at this
      have t1 : (W != W') = false := by simp [e1]
      have t2 : (H != H') = true := by simp [e2]
      clear e1 e2
      go_wp2_with fail
      go_ret
      exact ⟨rfl, unhide HBB⟩
    · have t1 : (W != W') = true := by simp [e1]
      clear e1
      go_wp2_with fail
      go_ret
      exact ⟨rfl, unhide HBB⟩
end Go.Proofs.Ytjhldjojkaphkaa

namespace Go.Proofs.Ytjhldjojkaphkaa
open Go.ChangeShapes Go.WideShapes Go.ChangeAt Go.RowKit
set_option linter.unusedVariables false
set_option linter.unusedSimpArgs false

theorem Zm.drew {X : World} {B gb gt gl n ct W H r pc : Nat} {pu : Option Addr} {s : Zs} (h : Zm X B gb gt gl n ct W H r pc pu s) : Zm X.drew B gb gt gl n ct W H r pc pu s := h.bel (Below.refl _ _).drew
theorem Zm.dn {X : World} {B gb gt gl n ct W H r pc : Nat} {pu : Option Addr} {s : Zs} (h : Zm X B gb gt gl n ct W H r pc pu s) (k : Nat) : Zm (X.drewN k) B gb gt gl n ct W H r pc pu s := h.bel ⟨rfl, rfl, rfl, Nat.le_refl _, fun _ _ => rfl⟩
/-- how the model's Zigzag ends -/
def ZendM (w' : World) (B : Nat) (ps : List (Nat × Nat × Int)) (v : Value) (E : Int) : Prop :=
  (1 + 4 * ps.length ≤ 2000 ∧ E = 0 ∧ Mvs w' B v (1 + 4 * ps.length) (zcs ps ps.length)) ∨ (2000 < 1 + 4 * ps.length ∧ E = 18 ∧ Mvs w' B v 0 [])
theorem mvs_made (W : World) (B g : Nat) (hb : B ≤ W.heap.size) (hg : g = W.heap.size) : Mvs (W.alloc (.cells #[] 65)) B (.slice (some ⟨g, 0, none⟩) 0 0) 0 [] := by
  subst hg
  exact World.ownsRow_made W #[] 0 hb (by decide) (by simp)
set_option maxHeartbeats 8000000 in
set_option maxRecDepth 100000 in
theorem zgM_good (W H n c g po c' g' po' r s : Nat) (A P : List Int) (w : World) (hW1 : 1 ≤ W) (hW : W ≤ 24) (hH1 : 1 ≤ H) (hH : H ≤ 24) (hn : n = W * H) (hr : r ≤ 3) (hs1 : 1 ≤ s) (hs : s ≤ 24)
    (hst : stB (W : Int) (H : Int) A (W : Int) (H : Int) P = true) (hF : Fd w g po n c A) (hF' : Fd w g' po' n c' P) (hA : ∀ i, 0 ≤ tp A i ∧ tp A i ≤ 24) (hL : ∀ i, 0 ≤ tp (lowL W H r P) i ∧ tp (lowL W H r P) i ≤ 24) :
    Calls Try.prog 10 #[fldV (W : Int) (H : Int) (some ⟨g, po, none⟩) n c, fldV (W : Int) (H : Int) (some ⟨g', po', none⟩) n c', .int .i64 (r : Int), .int .i64 (s : Int)] w fun e w' => (∃ v E, e = .returned (.tuple #[v, .int .i64 E]) ∧ ZendM w' w.heap.size (zzL W H r s A (lowL W H r P)) v E) ∧ Below w.heap.size w w' := by
  have hnb : n ≤ 576 := by rw [hn]; exact Nat.mul_le_mul hW hH
  have hn1 : 1 ≤ n := by rw [hn]; exact Nat.mul_pos hW1 hH1
  have hbl : Below w.heap.size w ((w.alloc (.cells #[.int .i64 (W : Int), .int .i64 (H : Int), .slice (some ⟨g, po, none⟩) n c] 25)).alloc (.cells #[.int .i64 (W : Int), .int .i64 (H : Int), .slice (some ⟨g', po', none⟩) n c'] 25)) := ba (ba (Below.refl _ _) _) _
  have HB0 := hide hbl
  have V4 := hide (vb_new1 w 25 [.int .i64 (W : Int), .int .i64 (H : Int), .slice (some ⟨g, po, none⟩) n c] (.cells #[.int .i64 (W : Int), .int .i64 (H : Int), .slice (some ⟨g', po', none⟩) n c'] 25))
  have V5 := hide (vb_new2 w 25 [.int .i64 (W : Int), .int .i64 (H : Int), .slice (some ⟨g', po', none⟩) n c'] (.cells #[.int .i64 (W : Int), .int .i64 (H : Int), .slice (some ⟨g, po, none⟩) n c] 25))
  have HP := hide (fun X (hX : Below w.heap.size w X) => prM_any (r : Int) (W : Int) (H : Int) (some ⟨g, po, none⟩) g po n c A (W : Int) (H : Int) (some ⟨g', po', none⟩) g' po' n c' P X hF.len (by omega) (hF.bel hX).its hF'.len (by omega) (hF'.bel hX).its)
  rw [hst, show (true && (decide (0 ≤ (r : Int)) && decide ((r : Int) ≤ 3))) = true by simp; omega] at HP
  have HLW := hide (fun X (hX : Below w.heap.size w X) => lwM_any W H r g' po' n c' P X hW1 hW hH1 hH hr hn (hF'.bel hX))
  have HLV := hide (fun X => lvM_any s X hs1 hs)
  have HLL : Hid ((lowL W H r P).length = n) := hide (by unfold lowL; rw [byL_len, hn])
  have HZE := hide (zrun_end W H r s A (lowL W H r P))
  have HZO := hide (zrun_ok (W := W) (H := H) (r := r) (s := s) (n := n) ⟨hF.len, hA⟩ hL)
  have HZ1 := hide (fun a y i x (ha : a < lvn s) (hy : y < H) (hi : i < W) hx => zr1 (W := W) (H := H) (r := r) (s := s) (A := A) (L := lowL W H r P) (a := a) (y := y) (i := i) (x := x) ha hy hi hx)
  have HZ2 := hide (fun y x (hy : y < H) (hx : x < W) => zr2 (W := W) (H := H) (r := r) (s := s) (A := A) (L := lowL W H r P) (y := y) (x := x) hy hx)
  have HZ0 : Hid (zrun W H r s A (lowL W H r P) 0 = ⟨A, []⟩) := hide rfl
  have HST := hide (fun (gb gt gl ct B x y : Nat) (z : Int) (st : Zs) (X : World) (hx : x < W) (hy : y < H) (hz0 : 0 ≤ z) (hz1 : z ≤ 24) h1 h2 h3 h4 h5 h6 h7 h8 h9 => stM_any W H r x y n ct c' gb gt gl B (some ⟨g', po', none⟩) z st X hW hH hr hx hy hn hz0 hz1 h1 h2 h3 h4 h5 h6 h7 h8 h9)
  have HCC : Hid (cnC W H s = lvn s * n + n) := hide (by unfold cnC; rw [hn])
  have HFA := hide hF
  have HAL := hide hF.len
  have HIA := hide (islv_any s)
  have HLG := hide (fun k (h : k < lvn s) => lvls_get h)
  have HLB := hide (fun k => lvl_bd s k)
  have HLVL := hide (lvls_len s)
  have hlv := lvn_le (s := s) hs1
  have HHW : Hid (n = H * W) := hide (by rw [hn, Nat.mul_comm])
  rw [← hn] at HZ1 HZ2
  have HLT := hide hL
  obtain ⟨LL, hLLe⟩ : ∃ LL, lowL W H r P = LL := ⟨_, rfl⟩
  rw [hLLe] at HLW HLL HZE HZO HZ1 HZ2 HZ0 HLT ⊢
  obtain ⟨ZR, hZR⟩ : ∃ ZR, zrun W H r s A LL = ZR := ⟨_, rfl⟩
  simp only [hZR] at HZE HZO HZ1 HZ2 HZ0
  obtain ⟨ls, hls⟩ : ∃ ls, lvls s = ls := ⟨_, rfl⟩
  rw [hls] at HLVL
  simp only [hls] at HLV HIA HLG
  obtain ⟨lN, hlN⟩ : ∃ lN, lvn s = lN := ⟨_, rfl⟩
  simp only [hlN] at HLV HZ1 HZ2 HCC HLG HLVL hlv
  have s1 : decide ((s : Int) < 1) = false := decide_eq_false (by omega)
  have s2 : decide ((24 : Int) < (s : Int)) = false := decide_eq_false (by omega)
  unfold fldV at *
  have HN := hide hn
  clear hF hF' hst hbl hn hL hA hLLe hZR hls hlN
  go_enter Try.func10, Try.ntmps10
  go_wp2_with fail
  refine (unhide HP _ (unhide HB0)).mono ?_
  rintro e W1 ⟨rfl, hb1⟩
  have U4 := hide ((unhide V4).bel hb1)
  have U5 := hide ((unhide V5).bel hb1)
  have HB1 := hide (bc (unhide HB0) hb1)
  have e0 := (unhide U5).cell (m := 0) rfl
  have e1 := (unhide U5).cell (m := 1) rfl
  have e2 := (unhide U5).cell (m := 2) rfl
  clear hb1 V4 V5 HB0 HP
  go_wp2_with fail
  refine (unhide HLW _ (unhide HB1)).mono ?_
  rintro e W2 ⟨⟨lv, rfl, hlv0, hlr⟩, hb2⟩
  obtain ⟨ql, cl, rfl, hql1, hql2, hcl1, hcl2⟩ := hlr.sm hlv0
  have HLI := hide hlr.ints
  have T4 := hide ((unhide U4).bel hb2)
  have T5 := hide ((unhide U5).bel hb2)
  have HB2 := hide (bc (unhide HB1) hb2)
  have HF2 := hide ((unhide HFA).bel (unhide HB2))
  have h5lt : w.heap.size + 1 < W2.heap.size := (unhide T5).lt
  clear hb2 hlr hlv0 U4 U5 HB1 HLW e0 e1 e2 HFA
  go_wp2_with fail
  refine Go.Code.wp_mono (Only.to (fun _ _ h => h)) (rg4 (A_ := A) hn1 hnb T4 T5 HAL HF2 (fun eb gt ct ob gb X hX hrt hob hvo h1 h2 h3 h4 h5 => ?_))
  have HX := hide hX
  have HRT := hide hrt
  have HVO := hide hvo
  have HVG := hide h2
  have hgt1 : W2.heap.size ≤ gt := hrt.ge
  have hgt2 : gt < X.heap.size := (World.ownsRow.lt hrt gt rfl).2
  have hob2 := hvo.lt
  have hgb2 := h2.lt
  clear hX hrt hvo h2
  go_wp2_with fail
  refine (unhide HLV _).mono ?_
  rintro e W5 ⟨⟨lv, rfl, hlv0, hlr⟩, hb5⟩
  obtain ⟨gl, cg, rfl, hgl1, hgl2, hcg1, hcg2⟩ := hlr.sm hlv0
  have HGI := hide hlr.ints
  have HX5 := hide (bc (unhide HX) hb5)
  have D5 := hide ((unhide T5).bel (unhide HX5))
  have HQI := hide ((unhide HLI).below (unhide HX5) hql2)
  have HB5 := hide (bc (unhide HB2) (unhide HX5))
  obtain ⟨B, hB⟩ : ∃ B, W2.heap.size = B := ⟨_, rfl⟩
  have HZM0 : Hid (Zm W5 B gb gt gl n ct W H r c' (some ⟨g', po', none⟩) (ZR 0)) := hide (by
    rw [unhide HZ0]
    refine ⟨⟨.slice (some ⟨ob, 0, none⟩) 1 1, (unhide HVG).bel hb5, ?_, ?_⟩, ?_⟩
    · exact ⟨rfl, .inr ⟨ob, 1, _, rfl, by omega, (unhide HVO).bel hb5, Nat.le_refl _, by decide, rfl, rfl⟩⟩
    · intro q hq
      simp only [Value.ownBlock, Option.some.injEq] at hq
      omega
    · rw [← hB]
      exact (unhide HRT).below hb5)
  have HGN : Hid (gl ≠ gb ∧ gl ≠ gt ∧ gb ≠ gt ∧ B ≤ gb ∧ B ≤ gt ∧ B ≤ gl) := hide (by omega)
  have HWB : Hid (w.heap.size ≤ B) := hide (by omega)
  have h5B : w.heap.size + 1 < B := by omega
  have hqlB : ql < B := by omega
  have hBW5 : B ≤ W5.heap.size := by omega
  clear hb5 hlr hlv0 HX HX5 T4 T5 HLI HB2 HF2 HRT HVO HVG hgt1 hgt2 hob hob2 hgb2 h1 h3 h4 h5 hB HLV h5lt hql1 hql2 HAL HZ0
  go_wp2_with fail
  go_loopw [13] (fun z X => ∃ k : Nat, z = .int .i64 (k : Int) ∧ k ≤ lN ∧ Zm X B gb gt gl n ct W H r c' (some ⟨g', po', none⟩) (ZR (k * n)) ∧ Zk B gl W5 X) (fun z _ => lN - (intOf z).toNat)
  case atStart => exact ⟨0, rfl, Nat.zero_le _, by rw [Nat.zero_mul]; exact unhide HZM0, Zk.refl _ _ _⟩
  case round =>
    obtain ⟨k, rfl, hk, hzm, hzk⟩ := hrel
    have HZK := hide hzk
    have HZM := hide hzm
    clear hzm hzk
    by_cases h : k < lN
    · have i1 : (k : Int) < (lN : Int) := by omega
      have i0 : (0 : Int) ≤ (k : Int) := Int.natCast_nonneg _
      have iz : decide ((k : Int) < (lN : Int)) = true := decide_eq_true i1
      have HK1 : Hid ((k + 1) * n = k * n + n) := hide (by rw [Nat.add_mul, Nat.one_mul])
      have hlc := (unhide HGI) k _ (unhide HLG k h)
      rw [Nat.zero_add] at hlc
      have HLC := hide hlc
      have hlb := unhide HLB k
      have HZ1k := hide (fun y i x => unhide HZ1 k y i x h)
      generalize lvl s k = lk at *
      obtain ⟨kn, hkn⟩ : ∃ kn, k * n = kn := ⟨_, rfl⟩
      rw [hkn] at HZM HK1
      simp only [hkn] at HZ1k
      clear hkn hlc
      go_wp2_with fail
      generalize hWa : wr = Wa at *
      clear hWa
      go_loopw [14] (fun z X => ∃ y : Nat, z = .int .i64 (y : Int) ∧ y ≤ H ∧ Zm X B gb gt gl n ct W H r c' (some ⟨g', po', none⟩) (ZR (kn + y * W)) ∧ Zk B gl W5 X) (fun z _ => H - (intOf z).toNat)
      case atStart => exact ⟨0, rfl, Nat.zero_le _, by rw [Nat.zero_mul, Nat.add_zero]; exact unhide HZM, unhide HZK⟩
      case round =>
        obtain ⟨y, rfl, hy, hzm, hzk⟩ := hrel
        have HZKy := hide hzk
        have HZMy := hide hzm
        have d5 := (unhide D5).below hzk.bel h5B
        have p1 := d5.cell (m := 1) rfl
        clear hzm hzk d5
        by_cases h2 : y < H
        · have j1 : (y : Int) < (H : Int) := by omega
          have j0 : (0 : Int) ≤ (y : Int) := Int.natCast_nonneg _
          have jz : decide ((y : Int) < (H : Int)) = true := decide_eq_true j1
          have hyW : y * W ≤ 24 * 24 := Nat.mul_le_mul (by omega) hW
          have HY1 : Hid ((y + 1) * W = y * W + W) := hide (by rw [Nat.add_mul, Nat.one_mul])
          have hyn : y * W + W ≤ n := by
            have : (y + 1) * W ≤ H * W := Nat.mul_le_mul_right W h2
            rw [unhide HHW]
            rw [Nat.add_mul, Nat.one_mul] at this
            exact this
          have eyW : (y : Int) * (W : Int) = ((y * W : Nat) : Int) := by simp
          have HZ1y := hide (fun i x => unhide HZ1k y i x h2)
          obtain ⟨yW, hyWe⟩ : ∃ yW, y * W = yW := ⟨_, rfl⟩
          rw [hyWe] at HZMy HY1 hyW hyn eyW
          simp only [hyWe] at HZ1y
          have wyW : IntKind.i64.wrap ((y : Int) * (W : Int)) = (yW : Int) := by rw [eyW]; exact Go.IntWalk.i64_in _ ⟨by omega, by omega⟩
          clear hyWe eyW
          go_wp2_with fail
          clear p1
          generalize hWb : wr = Wb at *
          clear hWb
          go_loopw [15] (fun z X => ∃ i : Nat, z = .int .i64 (i : Int) ∧ i ≤ W ∧ Zm X B gb gt gl n ct W H r c' (some ⟨g', po', none⟩) (ZR (kn + (yW + i))) ∧ Zk B gl W5 X) (fun z _ => W - (intOf z).toNat)
          case atStart => exact ⟨0, rfl, Nat.zero_le _, unhide HZMy, unhide HZKy⟩
          case round =>
            obtain ⟨i, rfl, hi, hzm, hzk⟩ := hrel
            have HZKi := hide hzk
            have HZMi := hide hzm
            have d5 := (unhide D5).below hzk.bel h5B
            have p0 := d5.cell (m := 0) rfl
            have HQx := hide ((unhide HQI).below hzk.bel hqlB)
            have hlc : wr.cell? ⟨gl, k, none⟩ = some (.int .i64 lk) := (World.cell?_of_block (w := W5) (a := ⟨gl, k, none⟩) hzk.lv).trans (unhide HLC)
            have hgls : gl < wr.heap.size := Nat.lt_of_lt_of_le hgl2 hzk.bel.size
            clear hzm hzk d5
            by_cases h3 : i < W
            · have l1 : (i : Int) < (W : Int) := by omega
              have l0 : (0 : Int) ≤ (i : Int) := Int.natCast_nonneg _
              have lz : decide ((i : Int) < (W : Int)) = true := decide_eq_true l1
              have w1 : IntKind.i64.wrap ((W : Int) - 1) = (W : Int) - 1 := wrap_i (by omega) (by omega)
              have hbody : ∀ xx : Nat, xx < W → xx = (if y % 2 = 1 then W - 1 - i else i) → True := fun _ _ _ => trivial
              obtain ⟨hok1, hok2⟩ := unhide HZO (kn + (yW + i))
              have HOK1 := hide hok1
              have HCALL := hide (fun (xx : Nat) (hxx : xx < W) (X : World) (hX1 : gl < X.heap.size) (hX2 : Zm X B gb gt gl n ct W H r c' (some ⟨g', po', none⟩) (ZR (kn + (yW + i)))) => unhide HST gb gt gl ct B xx y lk (ZR (kn + (yW + i))) X hxx h2 hlb.1 hlb.2 (unhide HGN).2.2.2.1 (unhide HGN).2.2.2.2.1 (unhide HGN).2.2.1 (unhide HGN).1 (unhide HGN).2.1 hX1 (unhide HOK1) hok2 hX2)
              have HSTEP := hide (fun (xx : Nat) hx => unhide HZ1y i xx h3 hx)
              obtain ⟨Zn, hZn⟩ : ∃ Zn, ZR (kn + (yW + (i + 1))) = Zn := ⟨_, rfl⟩
              have HZNE := hide hZn
              simp only [hZn] at HSTEP
              clear hZn
              generalize ZR (kn + (yW + i)) = Zo at *
              clear hok1 hok2 hbody HOK1
              by_cases hodd : y % 2 = 1
              · have et : (y : Int).tmod 2 = 1 := by rw [Int.tmod_eq_emod_of_nonneg (by omega)]; omega
                have et2 : (y : Int) % 2 = 1 := by omega
                have w2 : IntKind.i64.wrap ((W : Int) - 1 - (i : Int)) = ((W - 1 - i : Nat) : Int) := (wrap_i (by omega) (by omega)).trans (by omega)
                obtain ⟨xx, hxx⟩ : ∃ q, W - 1 - i = q := ⟨_, rfl⟩
                have hxW : xx < W := by omega
                have HS := hide (unhide HSTEP xx (by rw [if_pos hodd, hxx]))
                rw [hxx] at w2
                clear HSTEP hxx
                have hyx : yW + xx < n := by omega
                have wyx : IntKind.i64.wrap ((yW : Int) + (xx : Int)) = ((yW + xx : Nat) : Int) := by
                  rw [Int.natCast_add]
                  exact Go.IntWalk.i64_in _ ⟨by omega, by omega⟩
                have lwc := iat (T := LL) (unhide HQx) (i := yW + xx) (by rw [unhide HLL]; exact hyx)
                rw [Nat.zero_add] at lwc
                obtain ⟨q, hq⟩ : ∃ q, yW + xx = q := ⟨_, rfl⟩
                rw [hq] at wyx lwc HS hyx
                have q1 : (q : Int) < (n : Int) := by omega
                have q0 : (0 : Int) ≤ (q : Int) := Int.natCast_nonneg _
                obtain ⟨lw, hlw⟩ : ∃ lw, tp LL q = lw := ⟨_, rfl⟩
                rw [hlw] at lwc HS
                clear hq hlw hodd
                have HCx := hide (unhide HCALL xx hxW)
                clear HCALL
                by_cases hle : lw ≤ lk
                · have dl : decide (lw ≤ lk) = true := decide_eq_true hle
                  have HSn : Hid (Zn = zst W H r Zo (xx, y, lk)) := hide (by rw [unhide HS, if_pos hle])
                  clear HS
                  go_wp2_with fail
                  go_quiet (fail)
                  go_wp2_with fail
                  refine (unhide HCx _ (by first | exact hgls | simpa using hgls) (by repeat (first | exact unhide HZMi | refine Zm.drew ?_ | refine Zm.dn ?_ _))).mono ?_
                  rintro e W7 ⟨rfl, hz7, hb7, hl7⟩
                  have HZ7 := hide hz7
                  have HK7 : Hid (Zk B gl W5 W7) := hide (Zk.step (by repeat (first | exact unhide HZKi | refine Zk.drew ?_ | refine Zk.dn ?_ _)) hb7 hl7)
                  clear hz7 hb7 hl7
                  go_wp2_with fail
                  go_roundw
                  case rel => exact ⟨i + 1, by simp, h3, by rw [unhide HZNE, unhide HSn]; repeat (first | exact unhide HZ7 | refine Zm.drew ?_ | refine Zm.dn ?_ _), by repeat (first | exact unhide HK7 | refine Zk.drew ?_ | refine Zk.dn ?_ _)⟩
                  case measure => simp only [intOf]; omega
                · have dl : decide (lw ≤ lk) = false := decide_eq_false hle
                  have HSn : Hid (Zn = Zo) := hide (by rw [unhide HS, if_neg hle])
                  clear HS
                  go_wp2_with fail
                  go_quiet (fail)
                  go_wp2_with fail
                  go_roundw
                  case rel => exact ⟨i + 1, by simp, h3, by rw [unhide HZNE, unhide HSn]; repeat (first | exact unhide HZMi | refine Zm.drew ?_ | refine Zm.dn ?_ _), by repeat (first | exact unhide HZKi | refine Zk.drew ?_ | refine Zk.dn ?_ _)⟩
                  case measure => simp only [intOf]; omega
              · have et : (y : Int).tmod 2 = 0 := by rw [Int.tmod_eq_emod_of_nonneg (by omega)]; omega
                have et2 : (y : Int) % 2 = 0 := by omega
                have hxW : i < W := h3
                have HS := hide (unhide HSTEP i (by rw [if_neg hodd]))
                clear HSTEP
                have hyx : yW + i < n := by omega
                have wyx : IntKind.i64.wrap ((yW : Int) + (i : Int)) = ((yW + i : Nat) : Int) := by
                  rw [Int.natCast_add]
                  exact Go.IntWalk.i64_in _ ⟨by omega, by omega⟩
                have lwc := iat (T := LL) (unhide HQx) (i := yW + i) (by rw [unhide HLL]; exact hyx)
                rw [Nat.zero_add] at lwc
                obtain ⟨q, hq⟩ : ∃ q, yW + i = q := ⟨_, rfl⟩
                rw [hq] at wyx lwc HS hyx
                have q1 : (q : Int) < (n : Int) := by omega
                have q0 : (0 : Int) ≤ (q : Int) := Int.natCast_nonneg _
                obtain ⟨lw, hlw⟩ : ∃ lw, tp LL q = lw := ⟨_, rfl⟩
                rw [hlw] at lwc HS
                clear hq hlw hodd
                have HCx := hide (unhide HCALL i hxW)
                clear HCALL
                by_cases hle : lw ≤ lk
                · have dl : decide (lw ≤ lk) = true := decide_eq_true hle
                  have HSn : Hid (Zn = zst W H r Zo (i, y, lk)) := hide (by rw [unhide HS, if_pos hle])
                  clear HS
                  go_wp2_with fail
                  go_quiet (fail)
                  go_wp2_with fail
                  refine (unhide HCx _ (by first | exact hgls | simpa using hgls) (by repeat (first | exact unhide HZMi | refine Zm.drew ?_ | refine Zm.dn ?_ _))).mono ?_
                  rintro e W7 ⟨rfl, hz7, hb7, hl7⟩
                  have HZ7 := hide hz7
                  have HK7 : Hid (Zk B gl W5 W7) := hide (Zk.step (by repeat (first | exact unhide HZKi | refine Zk.drew ?_ | refine Zk.dn ?_ _)) hb7 hl7)
                  clear hz7 hb7 hl7
                  go_wp2_with fail
                  go_roundw
                  case rel => exact ⟨i + 1, by simp, h3, by rw [unhide HZNE, unhide HSn]; repeat (first | exact unhide HZ7 | refine Zm.drew ?_ | refine Zm.dn ?_ _), by repeat (first | exact unhide HK7 | refine Zk.drew ?_ | refine Zk.dn ?_ _)⟩
                  case measure => simp only [intOf]; omega
                · have dl : decide (lw ≤ lk) = false := decide_eq_false hle
                  have HSn : Hid (Zn = Zo) := hide (by rw [unhide HS, if_neg hle])
                  clear HS
                  go_wp2_with fail
                  go_quiet (fail)
                  go_wp2_with fail
                  go_roundw
                  case rel => exact ⟨i + 1, by simp, h3, by rw [unhide HZNE, unhide HSn]; repeat (first | exact unhide HZMi | refine Zm.drew ?_ | refine Zm.dn ?_ _), by repeat (first | exact unhide HZKi | refine Zk.drew ?_ | refine Zk.dn ?_ _)⟩
                  case measure => simp only [intOf]; omega
            · have lz : decide ((i : Int) < (W : Int)) = false := decide_eq_false (by omega)
              have HZn : Hid (Zm wr B gb gt gl n ct W H r c' (some ⟨g', po', none⟩) (ZR (kn + (y + 1) * W))) := hide (by
                rw [unhide HY1]
                have h9 := unhide HZMi
                rw [show i = W by omega] at h9
                exact h9)
              clear hlc
              go_wp2_with fail
              go_roundw
              case rel => exact ⟨y + 1, by simp, h2, by repeat (first | exact unhide HZn | refine Zm.drew ?_ | refine Zm.dn ?_ _), by repeat (first | exact unhide HZKi | refine Zk.drew ?_ | refine Zk.dn ?_ _)⟩
              case measure => simp only [intOf]; omega
        · have jz : decide ((y : Int) < (H : Int)) = false := decide_eq_false (by omega)
          have HZn : Hid (Zm wr B gb gt gl n ct W H r c' (some ⟨g', po', none⟩) (ZR ((k + 1) * n))) := hide (by
            rw [unhide HK1]
            have h9 := unhide HZMy
            rw [show y = H by omega, ← unhide HHW] at h9
            exact h9)
          go_wp2_with fail
          go_roundw
          case rel => exact ⟨k + 1, by simp, h, by repeat (first | exact unhide HZn | refine Zm.drew ?_ | refine Zm.dn ?_ _), by repeat (first | exact unhide HZKy | refine Zk.drew ?_ | refine Zk.dn ?_ _)⟩
          case measure => simp only [intOf]; omega
    · have iz : decide ((k : Int) < (lN : Int)) = false := decide_eq_false (by omega)
      obtain rfl : lN = k := by omega
      obtain ⟨kn, hkn⟩ : ∃ kn, lN * n = kn := ⟨_, rfl⟩
      rw [hkn] at HZM HCC
      simp only [hkn] at HZ2
      clear hkn HZ1
      go_wp2_with fail
      generalize hWa : wr = Wa at *
      clear hWa
      go_loopw [17] (fun z X => ∃ y : Nat, z = .int .i64 (y : Int) ∧ y ≤ H ∧ Zm X B gb gt gl n ct W H r c' (some ⟨g', po', none⟩) (ZR (kn + y * W)) ∧ Zk B gl W5 X) (fun z _ => H - (intOf z).toNat)
      case atStart => exact ⟨0, rfl, Nat.zero_le _, by rw [Nat.zero_mul, Nat.add_zero]; exact unhide HZM, unhide HZK⟩
      case round =>
        obtain ⟨y, rfl, hy, hzm, hzk⟩ := hrel
        have HZKy := hide hzk
        have HZMy := hide hzm
        have d5 := (unhide D5).below hzk.bel h5B
        have p1 := d5.cell (m := 1) rfl
        clear hzm hzk d5
        by_cases h2 : y < H
        · have j1 : (y : Int) < (H : Int) := by omega
          have j0 : (0 : Int) ≤ (y : Int) := Int.natCast_nonneg _
          have jz : decide ((y : Int) < (H : Int)) = true := decide_eq_true j1
          have hyW : y * W ≤ 24 * 24 := Nat.mul_le_mul (by omega) hW
          have HY1 : Hid ((y + 1) * W = y * W + W) := hide (by rw [Nat.add_mul, Nat.one_mul])
          have hyn : y * W + W ≤ n := by
            have : (y + 1) * W ≤ H * W := Nat.mul_le_mul_right W h2
            rw [unhide HHW]
            rw [Nat.add_mul, Nat.one_mul] at this
            exact this
          have eyW : (y : Int) * (W : Int) = ((y * W : Nat) : Int) := by simp
          have HZ2y := hide (fun x => unhide HZ2 y x h2)
          obtain ⟨yW, hyWe⟩ : ∃ yW, y * W = yW := ⟨_, rfl⟩
          rw [hyWe] at HZMy HY1 hyW hyn eyW
          simp only [hyWe] at HZ2y
          have wyW : IntKind.i64.wrap ((y : Int) * (W : Int)) = (yW : Int) := by rw [eyW]; exact Go.IntWalk.i64_in _ ⟨by omega, by omega⟩
          clear hyWe eyW
          go_wp2_with fail
          clear p1
          generalize hWb : wr = Wb at *
          clear hWb
          go_loopw [18] (fun z X => ∃ x : Nat, z = .int .i64 (x : Int) ∧ x ≤ W ∧ Zm X B gb gt gl n ct W H r c' (some ⟨g', po', none⟩) (ZR (kn + (yW + x))) ∧ Zk B gl W5 X) (fun z _ => W - (intOf z).toNat)
          case atStart => exact ⟨0, rfl, Nat.zero_le _, unhide HZMy, unhide HZKy⟩
          case round =>
            obtain ⟨x, rfl, hx, hzm, hzk⟩ := hrel
            have HZKi := hide hzk
            have HZMi := hide hzm
            have d5 := (unhide D5).below hzk.bel h5B
            have p0 := d5.cell (m := 0) rfl
            have HQx := hide ((unhide HQI).below hzk.bel hqlB)
            have HGx := hide ((unhide HGI).blk hzk.lv)
            have hgls : gl < wr.heap.size := Nat.lt_of_lt_of_le hgl2 hzk.bel.size
            clear hzm hzk d5
            by_cases h3 : x < W
            · have l1 : (x : Int) < (W : Int) := by omega
              have l0 : (0 : Int) ≤ (x : Int) := Int.natCast_nonneg _
              have lz : decide ((x : Int) < (W : Int)) = true := decide_eq_true l1
              obtain ⟨hok1, hok2⟩ := unhide HZO (kn + (yW + x))
              have HOK1 := hide hok1
              have hyx : yW + x < n := by omega
              have wyx : IntKind.i64.wrap ((yW : Int) + (x : Int)) = ((yW + x : Nat) : Int) := by
                rw [Int.natCast_add]
                exact Go.IntWalk.i64_in _ ⟨by omega, by omega⟩
              have lwc := iat (T := LL) (unhide HQx) (i := yW + x) (by rw [unhide HLL]; exact hyx)
              rw [Nat.zero_add] at lwc
              have hlwb := unhide HLT (yW + x)
              have HS := hide (unhide HZ2y x h3)
              obtain ⟨Zn, hZn⟩ : ∃ Zn, ZR (kn + (yW + (x + 1))) = Zn := ⟨_, rfl⟩
              have HZNE := hide hZn
              rw [hZn] at HS
              clear hZn
              have HCALL := hide (fun (X : World) (hX1 : gl < X.heap.size) (hX2 : Zm X B gb gt gl n ct W H r c' (some ⟨g', po', none⟩) (ZR (kn + (yW + x)))) => unhide HST gb gt gl ct B x y (tp LL (yW + x)) (ZR (kn + (yW + x))) X h3 h2 hlwb.1 hlwb.2 (unhide HGN).2.2.2.1 (unhide HGN).2.2.2.2.1 (unhide HGN).2.2.1 (unhide HGN).1 (unhide HGN).2.1 hX1 (unhide HOK1) hok2 hX2)
              generalize ZR (kn + (yW + x)) = Zo at *
              clear hok1 hok2 HOK1 hlwb
              have HIS := hide (unhide HIA (tp LL (yW + x)))
              have HYXN := hide (show yW + (x + 1) = yW + x + 1 by omega)
              obtain ⟨q, hq⟩ : ∃ q, yW + x = q := ⟨_, rfl⟩
              rw [hq] at wyx lwc HS hyx HCALL HIS
              have q1 : (q : Int) < (n : Int) := by omega
              have q0 : (0 : Int) ≤ (q : Int) := Int.natCast_nonneg _
              obtain ⟨lw, hlw⟩ : ∃ lw, tp LL q = lw := ⟨_, rfl⟩
              rw [hlw] at lwc HS HCALL HIS
              clear hq hlw
              go_wp2_with fail
              try go_quiet (fail)
              go_wp2_with fail
              clear lwc p0
              generalize hWc : wr = Wc at *
              clear hWc
              go_loopw [20, 21] (fun zl z X => ∃ j : Nat, z = .int .i64 (j : Int) ∧ j ≤ lN ∧ zl = .bool ((ls.take j).any fun l => l == lw) ∧ Same Wc X) (fun _ z _ => lN - (intOf z).toNat)
              case atStart => exact ⟨0, rfl, Nat.zero_le _, rfl, by repeat (first | exact Same.refl _ | refine Same.drew ?_ | refine Same.dnz ?_ _)⟩
              case round =>
                obtain ⟨j, rfl, hj, rfl, hsm⟩ := hrel
                have HSM := hide hsm
                by_cases h4 : j < lN
                · have m1 : (j : Int) < (lN : Int) := by omega
                  have m0 : (0 : Int) ≤ (j : Int) := Int.natCast_nonneg _
                  have mz : decide ((j : Int) < (lN : Int)) = true := decide_eq_true m1
                  have hjl := unhide HLG j h4
                  have c1 := (unhide HGx) j _ hjl
                  rw [Nat.zero_add, ← hsm.cell] at c1
                  have HAT := hide (any_takeI (fun l => l == lw) hjl)
                  obtain ⟨tk, htk⟩ : ∃ tk, ((ls.take j).any fun l => l == lw) = tk := ⟨_, rfl⟩
                  rw [htk] at HAT ⊢
                  generalize lvl s j = lj at *
                  clear hsm hjl htk
                  cases tk with
                  | true =>
                    go_wp2_with fail
                    try go_quiet (fail)
                    go_wp2_with fail
                    go_roundw
                    case rel => exact ⟨j + 1, by simp, h4, by rw [unhide HAT]; rfl, by repeat (first | exact unhide HSM | refine Same.drew ?_ | refine Same.dnz ?_ _)⟩
                    case measure => simp only [intOf]; omega
                  | false =>
                    by_cases he : lj = lw
                    · have d1 : (lj == lw) = true := by simpa using he
                      have d2 : decide (lj = lw) = true := decide_eq_true he
                      have HD := hide d1
                      clear he
                      go_wp2_with fail
                      try go_quiet (fail)
                      go_wp2_with fail
                      go_roundw
                      case rel => exact ⟨j + 1, by simp, h4, by rw [unhide HAT]; simp [unhide HD], by repeat (first | exact unhide HSM | refine Same.drew ?_ | refine Same.dnz ?_ _)⟩
                      case measure => simp only [intOf]; omega
                    · have d1 : (lj == lw) = false := by simpa using he
                      have d2 : decide (lj = lw) = false := decide_eq_false he
                      have HD := hide d1
                      go_wp2_with fail
                      try go_quiet (fail)
                      go_wp2_with fail
                      go_roundw
                      case rel => exact ⟨j + 1, by simp, h4, by rw [unhide HAT]; simp [unhide HD], by repeat (first | exact unhide HSM | refine Same.drew ?_ | refine Same.dnz ?_ _)⟩
                      case measure => simp only [intOf]; omega
                · have mz : decide ((j : Int) < (lN : Int)) = false := decide_eq_false (by omega)
                  have HE : Hid (((ls.take j).any fun l => l == lw) = islv s lw) := hide (by rw [List.take_of_length_le (by rw [unhide HLVL]; omega), unhide HIS])
                  have HSB : Hid (Below Wc.heap.size Wc wr) := hide hsm.bel
                  have HZMj := hide ((unhide HZMi).bel (unhide HSB))
                  have HZKj := hide ((unhide HZKi).step ((unhide HSB).mono (by have := (unhide HZKi).bel.size; omega)) ((unhide HSB).block gl hgls))
                  have hglj : gl < wr.heap.size := Nat.lt_of_lt_of_le hgls (unhide HSB).size
                  rw [unhide HE]
                  clear hsm HSM HE
                  cases hb : islv s lw with
                  | true =>
                    have HSn : Hid (Zn = Zo) := hide (by rw [unhide HS, hb]; rfl)
                    clear HS HIS hb
                    go_wp2_with fail
                    go_roundw
                    case rel => exact ⟨x + 1, by simp, h3, by rw [unhide HZNE, unhide HSn]; repeat (first | exact unhide HZMj | refine Zm.drew ?_ | refine Zm.dn ?_ _), by repeat (first | exact unhide HZKj | refine Zk.drew ?_ | refine Zk.dn ?_ _)⟩
                    case measure => simp only [intOf]; omega
                  | false =>
                    have HSn : Hid (Zn = zst W H r Zo (x, y, lw)) := hide (by rw [unhide HS, hb]; rfl)
                    clear HS HIS hb
                    go_wp2_with fail
                    refine (unhide HCALL _ (by first | exact hglj | simpa using hglj) (by repeat (first | exact unhide HZMj | refine Zm.drew ?_ | refine Zm.dn ?_ _))).mono ?_
                    rintro e W7 ⟨rfl, hz7, hb7, hl7⟩
                    have HZ7 := hide hz7
                    have HK7 : Hid (Zk B gl W5 W7) := hide (Zk.step (by repeat (first | exact unhide HZKj | refine Zk.drew ?_ | refine Zk.dn ?_ _)) hb7 hl7)
                    clear hz7 hb7 hl7
                    go_wp2_with fail
                    go_roundw
                    case rel => exact ⟨x + 1, by simp, h3, by rw [unhide HZNE, unhide HSn]; repeat (first | exact unhide HZ7 | refine Zm.drew ?_ | refine Zm.dn ?_ _), by repeat (first | exact unhide HK7 | refine Zk.drew ?_ | refine Zk.dn ?_ _)⟩
                    case measure => simp only [intOf]; omega
            · have lz : decide ((x : Int) < (W : Int)) = false := decide_eq_false (by omega)
              have HZn : Hid (Zm wr B gb gt gl n ct W H r c' (some ⟨g', po', none⟩) (ZR (kn + (y + 1) * W))) := hide (by
                rw [unhide HY1]
                have h9 := unhide HZMi
                rw [show x = W by omega] at h9
                exact h9)
              go_wp2_with fail
              go_roundw
              case rel => exact ⟨y + 1, by simp, h2, by repeat (first | exact unhide HZn | refine Zm.drew ?_ | refine Zm.dn ?_ _), by repeat (first | exact unhide HZKi | refine Zk.drew ?_ | refine Zk.dn ?_ _)⟩
              case measure => simp only [intOf]; omega
        · have jz : decide ((y : Int) < (H : Int)) = false := decide_eq_false (by omega)
          have HZn : Hid (Zm wr B gb gt gl n ct W H r c' (some ⟨g', po', none⟩) (ZR (cnC W H s))) := hide (by
            rw [unhide HCC]
            have h9 := unhide HZMy
            rw [show y = H by omega, ← unhide HHW] at h9
            exact h9)
          have HBL : Hid (Below w.heap.size w wr) := hide ((unhide HB5).trans ((unhide HZKy).bel.mono (unhide HWB)))
          obtain ⟨v, hv, hmv, _⟩ := (unhide HZn).out
          generalize ZR (cnC W H s) = Zf at *
          obtain ⟨gv, cv, rfl⟩ := Mvs.slc hmv (by omega)
          have HMV := hide hmv
          have c6 := hv.cell (m := 6) rfl
          clear hmv hv
          by_cases ho : 2000 < 1 + 4 * Zf.ps.length
          · have o1 : decide ((2000 : Int) < ((1 + 4 * Zf.ps.length : Nat) : Int)) = true := decide_eq_true (by omega)
            have HZE' : Hid (2000 < 1 + 4 * (zzL W H r s A LL).length) := hide (by
              rcases unhide HZE with ⟨h8, h9⟩ | ⟨h8, h9⟩
              · rw [h9] at ho; omega
              · exact h8)
            have HMM := hide (mvs_made wr w.heap.size wr.heap.size (unhide HBL).size rfl)
            have HBM := hide (ba (unhide HBL) (.cells #[] 65))
            generalize 1 + 4 * Zf.ps.length = M at *
            clear HMV
            go_wp2_with fail
            exact bodyPost_ret (v := .tuple #[.slice (some ⟨wr.heap.size, 0, none⟩) 0 0, .int .i64 18]) (by simp [results, Try.results10, go_sem]) rfl ⟨⟨_, _, rfl, .inr ⟨unhide HZE', rfl, unhide HMM⟩⟩, unhide HBM⟩
          · have o1 : decide ((2000 : Int) < ((1 + 4 * Zf.ps.length : Nat) : Int)) = false := decide_eq_false (by omega)
            have HZE' : Hid (Zf.ps = zzL W H r s A LL) := hide (by
              rcases unhide HZE with ⟨h8, h9⟩ | ⟨h8, h9⟩
              · exact h9
              · omega)
            rw [unhide HZE'] at o1 HMV c6 ho
            have HO := hide (show 1 + 4 * (zzL W H r s A LL).length ≤ 2000 by omega)
            have HMV' : Hid (Mvs wr w.heap.size (.slice (some ⟨gv, 0, none⟩) (1 + 4 * (zzL W H r s A LL).length) cv) (1 + 4 * (zzL W H r s A LL).length) (zcs (zzL W H r s A LL) (zzL W H r s A LL).length)) := hide (by
              have h9 := unhide HMV
              refine ⟨h9.1, ?_⟩
              rcases h9.2 with h1 | ⟨g9, cap9, cur9, hv9, hB9, r9⟩
              · exact .inl h1
              · exact .inr ⟨g9, cap9, cur9, hv9, Nat.le_trans (unhide HWB) hB9, r9⟩)
            obtain ⟨M, hM⟩ : ∃ M, 1 + 4 * (zzL W H r s A LL).length = M := ⟨_, rfl⟩
            rw [hM] at o1 c6 HMV' HO
            have HHM := hide hM
            clear HMV hM ho
            go_wp2_with fail
            refine bodyPost_ret (v := .tuple #[.slice (some ⟨gv, 0, none⟩) M cv, .int .i64 0]) (by simp [results, Try.results10, go_sem]) rfl ⟨⟨_, _, rfl, .inl ⟨?_, rfl, ?_⟩⟩, unhide HBL⟩
            · rw [unhide HHM]; exact unhide HO
            · rw [unhide HHM]; exact unhide HMV'
end Go.Proofs.Ytjhldjojkaphkaa

namespace Go.Proofs.Ytjhldjojkaphkaa
open Go.ChangeShapes Go.WideShapes Go.ChangeAt Go.RowKit
set_option linter.unusedVariables false
set_option linter.unusedSimpArgs false

theorem neq46 (a1 a2 b1 b2 : Int) (W : World) : (binOp .neq 46 (.agg #[.int .i64 a1, .int .i64 a2]) (.agg #[.int .i64 b1, .int .i64 b2])).run Try.prog W = .ok (.bool (!decide ((a1, a2) = (b1, b2)))) W := by
  cases h1 : a1 == b1 <;> cases h2 : a2 == b2
  all_goals
    have k1 := h1
    have k2 := h2
    simp only [beq_eq_false_iff_ne, beq_iff_eq] at k1 k2
    have e : decide ((a1, a2) = (b1, b2)) = (a1 == b1 && a2 == b2) := by simp [k1, k2]
    rw [e, h1, h2]
    clear e k1 k2
    go_simp
theorem ty46 : (Try.prog.info? 46).map (fun i => (i.zero, i.size, i.bytes)) = some (some (.agg #[.int .i64 0, .int .i64 0]), 2, 16) := by kernel_rfl
end Go.Proofs.Ytjhldjojkaphkaa

namespace Go.Proofs.Ytjhldjojkaphkaa
open Go.ChangeShapes Go.WideShapes Go.ChangeAt Go.RowKit Go.Shelf
attribute [local go_sem] Oper.semAt_some
set_option linter.unusedVariables false
set_option linter.unusedSimpArgs false

set_option maxHeartbeats 2000000 in
theorem trfM (W H n c g po : Nat) (x y z : Int) (w : World) :
    Calls Try.prog 54 #[fldV (W : Int) (H : Int) (some ⟨g, po, none⟩) n c, .agg #[.int .i64 x, .int .i64 y], .int .i64 z] w fun e w' => e = .returned (.func (.func 88) #[] #[.pointer (some ⟨w.heap.size + 1, 0, none⟩), .pointer (some ⟨w.heap.size, 0, none⟩), .pointer (some ⟨w.heap.size + 1 + 1, 0, none⟩)]) ∧ w' = ((w.alloc (.cells #[.int .i64 (W : Int), .int .i64 (H : Int), .slice (some ⟨g, po, none⟩) n c] 25)).alloc (.cells #[.int .i64 x, .int .i64 y] 46)).alloc (.cells #[.int .i64 z] 3) := by
  unfold fldV
  go_enter Try.func54, Try.ntmps54
  go_wp2_with fail
  go_ret
  exact ⟨rfl, rfl⟩
theorem wxy_ne {d e : Nat} (hd : d < 4) (he : e < 4) (h : e ≠ d) : ¬ ((wx e, wy e) = (wx d, wy d)) := fun hh => h (wxy_inj he hd (Prod.mk.inj hh).1 (Prod.mk.inj hh).2)
set_option maxRecDepth 100000 in
set_option maxHeartbeats 4000000 in
theorem tfS (m W H n c g po b1 b2 b3 n₀ x0 y0 K : Nat) (T : List Int) (z : Int) (w : World) (hW1 : 1 ≤ W) (hW : W ≤ 24) (hH1 : 1 ≤ H) (hH : H ≤ 24) (hn : n = W * H) (h1 : b1 < n₀) (h2 : b2 < n₀) (h3 : b3 < n₀) (hgn : g < n₀) (hn₀ : n₀ ≤ w.heap.size)
    (hv1 : vb w b1 46 [.int .i64 (x0 : Int), .int .i64 (y0 : Int)]) (hv2 : vb w b2 25 [.int .i64 (W : Int), .int .i64 (H : Int), .slice (some ⟨g, po, none⟩) n c]) (hv3 : vb w b3 3 [.int .i64 z]) (hF : Fd w g po n c T) (hfs : Fst W H T z x0 y0) (hK : Bck (Ab W H T z) ⟨(x0 : Int), (y0 : Int), 3⟩ K) :
    SeqO Fence.wide m Try.prog 88 #[.pointer (some ⟨b1, 0, none⟩), .pointer (some ⟨b2, 0, none⟩), .pointer (some ⟨b3, 0, none⟩)] (cor (crn (Ab W H T z) ⟨(x0 : Int), (y0 : Int), 3⟩ K)) (ctn (Ab W H T z) ⟨(x0 : Int), (y0 : Int), 3⟩ K) n₀ w := by
  intro l J Jx W0 hW0 hJ hJx hY h0
  have HVk : Hid (∀ X, Below n₀ W0 X → vb X b1 46 [.int .i64 (x0 : Int), .int .i64 (y0 : Int)] ∧ vb X b2 25 [.int .i64 (W : Int), .int .i64 (H : Int), .slice (some ⟨g, po, none⟩) n c] ∧ vb X b3 3 [.int .i64 z] ∧ Fd X g po n c T) := hide (fun X hX => ⟨(hv1.below hW0 (by omega)).below hX h1, (hv2.below hW0 (by omega)).below hX h2, (hv3.below hW0 (by omega)).below hX h3, Nat.lt_of_lt_of_le (Nat.lt_of_lt_of_le hF.lt hW0.size) hX.size, (hF.ints.below hW0 (by omega)).below hX hgn, hF.len, hF.cap, hF.top⟩)
  have HY := hide hY
  have HJ := hide hJ
  have HJX := hide hJx
  have HJ0 := hide h0
  have HCK := hide hfs.ok
  have HK := hide hK
  have hns : n₀ ≤ W0.heap.size := Nat.le_trans hn₀ hW0.size
  obtain ⟨cs, hcs⟩ : ∃ cs, cor (crn (Ab W H T z) ⟨(x0 : Int), (y0 : Int), 3⟩ K) = cs := ⟨_, rfl⟩
  have HCS := hide hcs
  have HWY := hide (fun (x y : Int) (d : Nat) X (hX : Fd X g po n c T) hd hx hy => wyP_any W H n c g po T x y d z X hW1 hW hH1 hH hn hd hx hy hX)
  obtain ⟨q1, q2, q3, q4⟩ := unhide HVk W0 (Below.refl _ _)
  have f0 := q1.cell (m := 0) rfl
  have f1 := q1.cell (m := 1) rfl
  clear hv1 hv2 hv3 hF hW0 hJ hJx hY h0 hfs hK q1 q2 q3 q4 hcs hn
  unfold fldV at *
  refine callsIn_of_wp Try.func88 rfl trivial ?_ rfl
  simp only [Try.ntmps88, List.size_toArray, List.length_cons, List.length_nil, Nat.reduceAdd, Nat.reduceSub, Array.replicate_succ, Array.replicate_zero, List.push_toArray, List.append_toArray, List.nil_append, List.cons_append]
  gi_wp2
  have hbl : Below W0.heap.size W0 ((W0.alloc (.cells #[.int .i64 (x0 : Int), .int .i64 (y0 : Int)] 46)).alloc (.cells #[.int .i64 0, .int .i64 (-1)] 46)) := ba (ba (Below.refl _ _) _) _
  have H5 := hide (vb_new1 W0 46 [.int .i64 (x0 : Int), .int .i64 (y0 : Int)] (.cells #[.int .i64 0, .int .i64 (-1)] 46))
  have H6 := hide (vb_new2 W0 46 [.int .i64 0, .int .i64 (-1)] (.cells #[.int .i64 (x0 : Int), .int .i64 (y0 : Int)] 46))
  have HJ1 := hide (unhide HJ (fun _ => False) (fun b => b = W0.heap.size ∨ b = W0.heap.size + 1) 0 _ _ (unhide HJ0) (Grw.of_bel hbl) (fun b hb => .inr (by omega)))
  have HB := hide (hbl.mono hns)
  clear hbl f0 f1 HJ0
  generalize (W0.alloc (.cells #[.int .i64 (x0 : Int), .int .i64 (y0 : Int)] 46)).alloc (.cells #[.int .i64 0, .int .i64 (-1)] 46) = Wa at *
  obtain ⟨b5, hb5⟩ : ∃ b, W0.heap.size = b := ⟨_, rfl⟩
  obtain ⟨b6, hb6⟩ : ∃ b, b5 + 1 = b := ⟨_, rfl⟩
  rw [hb5, hb6] at H6 HJ1
  rw [hb5] at H5
  rw [hb5, hb6]
  have n56 : b5 ≠ b6 := by omega
  have n65 : b6 ≠ b5 := by omega
  have h56 : n₀ ≤ b5 ∧ n₀ ≤ b6 := by omega
  have HS56 := hide (show W0.heap.size ≤ b5 ∧ W0.heap.size ≤ b6 by omega)
  clear hb5 hb6
  gi_loopg [] K (fun kk X => ∃ (j d : Nat) (px py : Int), kk = K - j ∧ j < K ∧ itr (nxt (Ab W H T z)) ⟨(x0 : Int), (y0 : Int), 3⟩ j = ⟨px, py, d⟩ ∧ J (fun b => b = b5 ∨ b = b6) (ctn (Ab W H T z) ⟨(x0 : Int), (y0 : Int), 3⟩ j) X ∧ vb X b5 46 [.int .i64 px, .int .i64 py] ∧ vb X b6 46 [.int .i64 (wx d), .int .i64 (wy d)] ∧ Below n₀ W0 X)
  case atStart => exact ⟨0, 3, _, _, rfl, (unhide HK).one, rfl, unhide HJ1, unhide H5, unhide H6, unhide HB⟩
  case round =>
    clear H5 H6 HJ1 HB
    obtain ⟨j, d, px, py, hgk, hjK, hst, hj, hv5, hv6, hb⟩ := hrel
    have HGK := hide hgk
    have HST := hide hst
    have HJ1 := hide hj
    have H5 := hide hv5
    have H6 := hide hv6
    have HB := hide hb
    have hok := itr_ok (unhide HCK).1 j
    rw [hst] at hok
    have hin := cok_in (Ab_in (W := W) (H := H) (T := T) (z := z)) hok
    have hd4 : d < 4 := hok.d4
    simp only at hin
    have hpx : 0 ≤ px ∧ px ≤ 24 := by omega
    have hpy : 0 ≤ py ∧ py ≤ 24 := by omega
    have hok2 := itr_ok (unhide HCK).1 (j + 1)
    obtain ⟨e, he⟩ : ∃ e, nxd (Ab W H T z) ⟨px, py, d⟩ = e := ⟨_, rfl⟩
    have HNX : Hid (itr (nxt (Ab W H T z)) ⟨(x0 : Int), (y0 : Int), 3⟩ (j + 1) = ⟨px + wx e, py + wy e, e⟩) := hide (by
      show nxt (Ab W H T z) (itr (nxt (Ab W H T z)) ⟨(x0 : Int), (y0 : Int), 3⟩ j) = _
      rw [hst]
      show (⟨px + wx (nxd (Ab W H T z) ⟨px, py, d⟩), py + wy (nxd (Ab W H T z) ⟨px, py, d⟩), nxd (Ab W H T z) ⟨px, py, d⟩⟩ : Cst) = _
      rw [he])
    rw [unhide HNX] at hok2
    have he4 : e < 4 := hok2.d4
    have HE := hide he
    obtain ⟨r1, r2, r3, r4⟩ := unhide HVk _ hb
    have k0 := r2.cell (m := 0) rfl
    have k1 := r2.cell (m := 1) rfl
    have k2 := r2.cell (m := 2) rfl
    have z0 := r3.cell (m := 0) rfl
    have p0 := hv5.cell (m := 0) rfl
    have p1 := hv5.cell (m := 1) rfl
    have d0 := hv6.cell (m := 0) rfl
    have d1 := hv6.cell (m := 1) rfl
    have HW1 := hide (unhide HWY px py d wr r4 hd4 hpx hpy)
    rw [he] at HW1
    have hex := wx_bd e
    have hey := wy_bd e
    have HP := hide (fun X => plP_any px py (wx e) (wy e) X (by omega) (by omega) (by omega) (by omega))
    clear hgk hst hj hv5 hv6 hb hok hin hok2 he r1 r2 r3 r4 hex hey
    gi_wp2
    refine ⟨trivial, fun h => (by cases h), (callsIn_wide.2 (unhide HW1)).mono ?_⟩
    rintro _ W2 ⟨rfl, hb2⟩
    have H5b := hide ((unhide H5).bel hb2)
    have H6b := hide ((unhide H6).bel hb2)
    have hnw : n₀ ≤ wr.heap.size := Nat.le_trans hns (unhide HB).size
    have HB2 := hide ((unhide HB).trans (hb2.mono hnw))
    have HJ2 := hide (unhide HJ _ (fun b => b = b5 ∨ b = b6 ∨ b = W2.heap.size) _ _ _ (unhide HJ1) (Grw.of_bel (bc (Below.refl _ _) (bc hb2 (ba (Below.refl _ _) (.cells #[.int .i64 (wx e), .int .i64 (wy e)] 46))))) (fun b hb => by have := hb2.size; rcases hb with h | h | h; exact .inl (.inl h); exact .inl (.inr h); exact .inr (by omega)))
    have hA : Below W2.heap.size W2 (W2.alloc (.cells #[.int .i64 (wx e), .int .i64 (wy e)] 46)) := ba (Below.refl _ _) _
    have hnw2 : n₀ ≤ W2.heap.size := Nat.le_trans hnw hb2.size
    have H5c := hide ((unhide H5b).bel hA)
    have H6c := hide ((unhide H6b).bel hA)
    have H7c := hide (vb_new W2 46 [.int .i64 (wx e), .int .i64 (wy e)] W2.heap.size rfl)
    have HBc := hide ((unhide HB2).trans (hA.mono hnw2))
    have n75 : W2.heap.size ≠ b5 := by have := (unhide H5b).lt; omega
    have n76 : W2.heap.size ≠ b6 := by have := (unhide H6b).lt; omega
    have hsz7 : W2.heap.size < (W2.alloc (.cells #[.int .i64 (wx e), .int .i64 (wy e)] 46)).heap.size := by simp
    have h07 : n₀ ≤ W2.heap.size := hnw2
    have h07' : W0.heap.size ≤ W2.heap.size := (unhide HB2).size
    have l5 := (unhide H5b).lt
    have l6 := (unhide H6b).lt
    clear d0 d1 p0 p1
    have p0 := (unhide H5b).cell (m := 0) rfl
    have p1 := (unhide H5b).cell (m := 1) rfl
    have d0 := (unhide H6b).cell (m := 0) rfl
    have d1 := (unhide H6b).cell (m := 1) rfl
    clear hb2 hA k0 k1 k2 z0 H5 H6 H5b H6b HJ1 HB HB2
    by_cases hed : e = d
    · have hq0 : ∀ X, (binOp .neq 46 (.agg #[.int .i64 (wx e), .int .i64 (wy e)]) (.agg #[.int .i64 (wx d), .int .i64 (wy d)])).run Try.prog X = .ok (.bool false) X := fun X => by rw [neq46, decide_eq_true (by rw [hed])]; rfl
      have HCT : Hid (ctn (Ab W H T z) ⟨(x0 : Int), (y0 : Int), 3⟩ (j + 1) = ctn (Ab W H T z) ⟨(x0 : Int), (y0 : Int), 3⟩ j) := hide (by
        show ctn (Ab W H T z) ⟨(x0 : Int), (y0 : Int), 3⟩ j + _ = _
        rw [unhide HST, unhide HE, if_pos hed, Nat.add_zero])
      have HJ2' := HJ2
      rw [← unhide HCT] at HJ2'
      clear hed HJ2
      gi_wp2
      refine ⟨fun _ h => (by cases h), ?_⟩
      gi_wp2
      generalize W2.alloc (.cells #[.int .i64 (wx e), .int .i64 (wy e)] 46) = W4 at *
      generalize W2.heap.size = b7 at *
      refine wpIn_wide.2 (Go.Code.wp_mono (Only.to (fun _ _ h => h)) (tf3 n56 n65 n75 n76 H5c H6c H7c HP (fun Wf h5 h6 hg => ?_)))
      have HB3 := hide ((unhide HBc).trans (hg.bel (n := n₀) (Nat.le_trans hns (unhide HBc).size) (fun b hb => by omega)))
      have HJ3 := hide (unhide HJ _ (fun b => b = b5 ∨ b = b6) _ _ _ (unhide HJ2') (hg.mono (fun b hb => hb.elim .inl (fun h => .inr (.inl h)))) (fun b hb => .inl (hb.elim .inl (fun h => .inr (.inl h)))))
      have H5f := hide h5
      have H6f := hide h6
      obtain ⟨r1, r2, r3, r4⟩ := unhide HVk _ (unhide HB3)
      have f0 := r1.cell (m := 0) rfl
      have f1 := r1.cell (m := 1) rfl
      have p0 := h5.cell (m := 0) rfl
      have p1 := h5.cell (m := 1) rfl
      clear h5 h6 hg r1 r2 r3 r4
      by_cases heq : px + wx e = (x0 : Int) ∧ py + wy e = (y0 : Int)
      · have hq : ∀ X, (binOp .eql 46 (.agg #[.int .i64 (px + wx e), .int .i64 (py + wy e)]) (.agg #[.int .i64 (x0 : Int), .int .i64 (y0 : Int)])).run Try.prog X = .ok (.bool true) X := fun X => by rw [eql46, decide_eq_true heq]
        have hjk : j + 1 = K := by
          rcases Nat.lt_or_eq_of_le (show j + 1 ≤ K by omega) with h1 | h1
          · exfalso
            refine (unhide HK).no (j + 1) (by omega) h1 ?_
            rw [unhide HNX]
            exact heq
          · exact h1
        have HJK := hide hjk
        clear heq hjk
        gi_wp2
        refine bodyPost_ret (results_none rfl _ _ _) rfl ?_
        exact ⟨⟨_, rfl⟩, _, .inl (by rw [← unhide HJK]; exact unhide HJ3)⟩
      · have hq : ∀ X, (binOp .eql 46 (.agg #[.int .i64 (px + wx e), .int .i64 (py + wy e)]) (.agg #[.int .i64 (x0 : Int), .int .i64 (y0 : Int)])).run Try.prog X = .ok (.bool false) X := fun X => by rw [eql46, decide_eq_false heq]
        have hjk : j + 1 < K := by
          rcases Nat.lt_or_eq_of_le (show j + 1 ≤ K by omega) with h1 | h1
          · exact h1
          · exfalso
            have h2 := (unhide HK).at'
            rw [← h1, unhide HNX] at h2
            exact heq h2
        clear heq
        gi_wp2
        go_roundg (K - (j + 1))
        case measure => have := unhide HGK; omega
        case rel => exact ⟨j + 1, e, _, _, rfl, hjk, unhide HNX, unhide HJ3, unhide H5f, unhide H6f, unhide HB3⟩
    · have hq0 : ∀ X, (binOp .neq 46 (.agg #[.int .i64 (wx e), .int .i64 (wy e)]) (.agg #[.int .i64 (wx d), .int .i64 (wy d)])).run Try.prog X = .ok (.bool true) X := fun X => by rw [neq46, decide_eq_false (wxy_ne hd4 he4 hed)]; rfl
      have hca := cor_at hjK (unhide HST) (by rw [unhide HE]; exact hed)
      have HCT := hide hca.2.2
      have HLT := hide hca.2.1
      obtain ⟨fn, tmps, assign, body, hy, hR⟩ := unhide HY _ _ _ hca.2.1 (fun b hb => by rcases hb with rfl | rfl | rfl; exact ⟨(unhide HS56).1, (unhide H5c).lt⟩; exact ⟨(unhide HS56).2, (unhide H6c).lt⟩; exact ⟨h07', hsz7⟩) (unhide HJ2)
      rw [hca.1] at hy
      clear hca hed HJ2
      gi_wp2
      refine ⟨fun h => (by cases h), hR.mono ?_⟩
      rintro _ W3 (⟨rfl, hJ3, hk3⟩ | ⟨rfl, hJx3⟩)
      · have H5d := hide ((hk3.own _ (.inl rfl) (unhide H5c).lt).trans (unhide H5c))
        have H6d := hide ((hk3.own _ (.inr (.inl rfl)) (unhide H6c).lt).trans (unhide H6c))
        have H7d := hide ((hk3.own _ (.inr (.inr rfl)) hsz7).trans (unhide H7c))
        have HBd := hide ((unhide HBc).trans hk3.bel)
        have HJd := hide hJ3
        rw [← unhide HCT] at HJd
        clear hJ3 hk3 hR hy H5c H6c H7c HBc p0 p1 d0 d1 hsz7
        gi_wp2
        generalize W2.heap.size = b7 at *
        refine wpIn_wide.2 (Go.Code.wp_mono (Only.to (fun _ _ h => h)) (tf3 n56 n65 n75 n76 H5d H6d H7d HP (fun Wf h5 h6 hg => ?_)))
        have HB3 := hide ((unhide HBd).trans (hg.bel (n := n₀) (Nat.le_trans hns (unhide HBd).size) (fun b hb => by omega)))
        have HJ3 := hide (unhide HJ _ (fun b => b = b5 ∨ b = b6) _ _ _ (unhide HJd) (hg.mono (fun b hb => hb.elim .inl (fun h => .inr (.inl h)))) (fun b hb => .inl (hb.elim .inl (fun h => .inr (.inl h)))))
        have H5f := hide h5
        have H6f := hide h6
        obtain ⟨r1, r2, r3, r4⟩ := unhide HVk _ (unhide HB3)
        have f0 := r1.cell (m := 0) rfl
        have f1 := r1.cell (m := 1) rfl
        have p0 := h5.cell (m := 0) rfl
        have p1 := h5.cell (m := 1) rfl
        clear h5 h6 hg r1 r2 r3 r4
        by_cases heq : px + wx e = (x0 : Int) ∧ py + wy e = (y0 : Int)
        · have hq : ∀ X, (binOp .eql 46 (.agg #[.int .i64 (px + wx e), .int .i64 (py + wy e)]) (.agg #[.int .i64 (x0 : Int), .int .i64 (y0 : Int)])).run Try.prog X = .ok (.bool true) X := fun X => by rw [eql46, decide_eq_true heq]
          have hjk : j + 1 = K := by
            rcases Nat.lt_or_eq_of_le (show j + 1 ≤ K by omega) with h1 | h1
            · exfalso
              refine (unhide HK).no (j + 1) (by omega) h1 ?_
              rw [unhide HNX]
              exact heq
            · exact h1
          have HJK := hide hjk
          clear heq hjk
          gi_wp2
          refine bodyPost_ret (results_none rfl _ _ _) rfl ?_
          exact ⟨⟨_, rfl⟩, _, .inl (by rw [← unhide HJK]; exact unhide HJ3)⟩
        · have hq : ∀ X, (binOp .eql 46 (.agg #[.int .i64 (px + wx e), .int .i64 (py + wy e)]) (.agg #[.int .i64 (x0 : Int), .int .i64 (y0 : Int)])).run Try.prog X = .ok (.bool false) X := fun X => by rw [eql46, decide_eq_false heq]
          have hjk : j + 1 < K := by
            rcases Nat.lt_or_eq_of_le (show j + 1 ≤ K by omega) with h1 | h1
            · exact h1
            · exfalso
              have h2 := (unhide HK).at'
              rw [← h1, unhide HNX] at h2
              exact heq h2
          clear heq
          gi_wp2
          go_roundg (K - (j + 1))
          case measure => have := unhide HGK; omega
          case rel => exact ⟨j + 1, e, _, _, rfl, hjk, unhide HNX, unhide HJ3, unhide H5f, unhide H6f, unhide HB3⟩
      · clear hR hy
        have HX3 := hide hJx3
        clear hJx3
        gi_wp2
        refine bodyPost_ret (results_none rfl _ _ _) rfl ?_
        exact ⟨⟨_, rfl⟩, _, .inr ⟨_, unhide HLT, unhide HX3⟩⟩
end Go.Proofs.Ytjhldjojkaphkaa

namespace Go.Proofs.Ytjhldjojkaphkaa
open Go.ChangeShapes Go.WideShapes Go.ChangeAt Go.RowKit
set_option linter.unusedVariables false
set_option linter.unusedSimpArgs false

/-- what an outline answers -/
structure Otl (W H : Nat) (T : List Int) (z : Int) (E : Int) (L : List Int) : Prop where
  none : (∀ i, i < W * H → ¬ z < tp T i) → E = 8 ∧ L = []
  some : ∀ x y K, Fst W H T z x y → Bck (Ab W H T z) ⟨(x : Int), (y : Int), 3⟩ K → E = 0 ∧ L = crn (Ab W H T z) ⟨(x : Int), (y : Int), 3⟩ K
/-- so far the outline has been gone round -/
structure Wlk (A : Int → Int → Bool) (s : Cst) (K k d : Nat) (px py : Int) : Prop where
  lt : k < K
  hx : (itr (nxt A) s k).x = px
  hy : (itr (nxt A) s k).y = py
  hd : nxd A (itr (nxt A) s k) = d
theorem Wlk.next {A : Int → Int → Bool} {s : Cst} {K k d : Nat} {px py : Int} (h : Wlk A s K k d px py) : itr (nxt A) s (k + 1) = ⟨px + wx d, py + wy d, d⟩ := by
  show (⟨(itr (nxt A) s k).x + wx (nxd A (itr (nxt A) s k)), (itr (nxt A) s k).y + wy (nxd A (itr (nxt A) s k)), nxd A (itr (nxt A) s k)⟩ : Cst) = _
  rw [h.hd, h.hx, h.hy]
theorem Wlk.go {A : Int → Int → Bool} {s : Cst} {K k d e : Nat} {px py : Int} (h : Wlk A s K k d px py) (hk : k + 1 < K) (he : nxd A ⟨px + wx d, py + wy d, d⟩ = e) : Wlk A s K (k + 1) e (px + wx d) (py + wy d) := by
  refine ⟨hk, ?_, ?_, ?_⟩ <;> rw [h.next]
  exact he
theorem crn_turn {A : Int → Int → Bool} {s : Cst} {K k d e : Nat} {px py : Int} (h : Wlk A s K k d px py) (he : nxd A ⟨px + wx d, py + wy d, d⟩ = e) (hn : e ≠ d) : crn A s (k + 1 + 1) = crn A s (k + 1) ++ [px + wx d, py + wy d] := by
  show crn A s (k + 1) ++ _ = _
  rw [h.next, he, if_neg hn]
theorem crn_stay {A : Int → Int → Bool} {s : Cst} {K k d : Nat} {px py : Int} (h : Wlk A s K k d px py) (he : nxd A ⟨px + wx d, py + wy d, d⟩ = d) : crn A s (k + 1 + 1) = crn A s (k + 1) := by
  show crn A s (k + 1) ++ _ = _
  rw [h.next, he, if_pos rfl, List.append_nil]
set_option maxHeartbeats 8000000 in
set_option maxRecDepth 100000 in
theorem ctM_good (W H n c g po : Nat) (T : List Int) (z : Int) (w : World) (hO : FOk (W : Int) (H : Int) T) (hn : n = W * H) (hz : 0 ≤ z ∧ z ≤ 23) (hF : Fd w g po n c T) :
    Calls Try.prog 16 #[fldV (W : Int) (H : Int) (some ⟨g, po, none⟩) n c, .int .i64 z] w fun e w' => (∃ (v : Value) (l : Nat) (L : List Int) (E : Int), e = .returned (.tuple #[v, .int .i64 E]) ∧ Row w' w.heap.size 46 2 v l L ∧ Otl W H T z E L) ∧ Below w.heap.size w w' := by
  obtain ⟨_, _, ea, eb, hW1, hW, hH1, hH, _⟩ := hO.nat
  cases Int.natCast_inj.1 ea
  cases Int.natCast_inj.1 eb
  have HFO := hide (fun X (hX : Below w.heap.size w X) => fokM_any (W : Int) (H : Int) (some ⟨g, po, none⟩) g po n c T X hF.len (by have := hF.cap; have := hF.top; omega) (hF.bel hX).its)
  have hfo : fokB (W : Int) (H : Int) T = true := decide_eq_true hO
  rw [hfo] at HFO
  have HAB := hide (fun (x y : Int) (X : World) (hX : Below w.heap.size w X) => abM_any W H n c g po T x y z X hW hH hn (hF.bel hX))
  have HB0 := hide (ba (Below.refl w.heap.size w) (.cells #[.int .i64 (W : Int), .int .i64 (H : Int), .slice (some ⟨g, po, none⟩) n c] 25))
  have HV0 := hide (vb_new w 25 [.int .i64 (W : Int), .int .i64 (H : Int), .slice (some ⟨g, po, none⟩) n c] w.heap.size rfl)
  have tz1 : decide (z < 0) = false := decide_eq_false (by omega)
  have tz2 : decide (24 ≤ z) = false := decide_eq_false (by omega)
  have wH : IntKind.i64.wrap ((H : Int) - 1) = (H : Int) - 1 := wrap_i (by omega) (by omega)
  have wW : IntKind.i64.wrap ((W : Int) - 1) = (W : Int) - 1 := wrap_i (by omega) (by omega)
  unfold fldV at *
  clear hF hfo ea eb hn hO
  go_enter Try.func16, Try.ntmps16
  go_upto_region 1 with fail
  generalize w.alloc (.cells #[.int .i64 (W : Int), .int .i64 (H : Int), .slice (some ⟨g, po, none⟩) n c] 25) = Wa at *
  have k0 := (unhide HV0).cell (m := 0) rfl
  have k1 := (unhide HV0).cell (m := 1) rfl
  have k2 := (unhide HV0).cell (m := 2) rfl
  go_wp2_with fail
  refine (unhide HFO _ (unhide HB0)).mono ?_
  rintro e W1 ⟨rfl, hb1⟩
  have hA : Below W1.heap.size W1 (W1.alloc (.cells #[.int .i64 (-1), .int .i64 0] 46)) := ba (Below.refl _ _) _
  have HV1 := hide (((unhide HV0).bel hb1).bel hA)
  have HB1 := hide (bc (bc (unhide HB0) hb1) hA)
  have HF1 := hide (vb_new W1 46 [.int .i64 (-1), .int .i64 0] W1.heap.size rfl)
  have hs1 : w.heap.size < W1.heap.size := Nat.lt_of_lt_of_le (unhide HV0).lt hb1.size
  clear hb1 hA HV0 HB0 k0 k1 k2
  go_upto_region 6 with fail
  generalize W1.alloc (.cells #[.int .i64 (-1), .int .i64 0] 46) = Wb at *
  generalize W1.heap.size = b6 at *
  have k1 := (unhide HV1).cell (m := 1) rfl
  go_wp2_with fail
  clear k1
  go_loopw [7] (fun zz X => ∃ (p : Nat) (pz fx fy : Int), zz = .int .i64 pz ∧ pz = (p : Int) - 1 ∧ p ≤ H ∧ Sc W H T z (p * W) fx fy ∧ vb X b6 46 [.int .i64 fx, .int .i64 fy] ∧ vb X w.heap.size 25 [.int .i64 (W : Int), .int .i64 (H : Int), .slice (some ⟨g, po, none⟩) n c] ∧ Below w.heap.size w X) (fun zz _ => (intOf zz + 1).toNat)
  case atStart => exact ⟨H, _, -1, 0, rfl, rfl, Nat.le_refl _, Sc.start W H T z, unhide HF1, unhide HV1, unhide HB1⟩
  case round =>
    obtain ⟨p, pz, fx, fy, rfl, hpz, hpH, hsc, hv6, hv0, hb⟩ := hrel
    have HPZ := hide hpz
    have HSC := hide hsc
    have H6 := hide hv6
    have H0 := hide hv0
    have HB := hide hb
    clear hsc hv6 hv0 hb HF1 HV1 HB1
    have k0 := (unhide H0).cell (m := 0) rfl
    by_cases hp : 0 < p
    · have lz : decide (0 ≤ pz) = true := decide_eq_true (by omega)
      obtain ⟨q, hq⟩ : ∃ q, p = q + 1 := ⟨p - 1, by omega⟩
      have HQ := hide hq
      have hqH : q < H := by omega
      have wq : IntKind.i64.wrap (pz - 1) = ((q : Nat) : Int) - 1 := (wrap_i (by omega) (by omega)).trans (by omega)
      have hz0 : 0 ≤ pz := by omega
      have hzq : pz < H := by omega
      clear hq hpz
      go_wp2_with fail
      clear k0
      go_loopw [8] (fun zz X => ∃ (u : Nat) (uz fx fy : Int), zz = .int .i64 uz ∧ uz = (u : Int) - 1 ∧ u ≤ W ∧ Sc W H T z (q * W + u) fx fy ∧ vb X b6 46 [.int .i64 fx, .int .i64 fy] ∧ vb X w.heap.size 25 [.int .i64 (W : Int), .int .i64 (H : Int), .slice (some ⟨g, po, none⟩) n c] ∧ Below w.heap.size w X) (fun zz _ => (intOf zz + 1).toNat)
      case atStart => exact ⟨W, _, fx, fy, rfl, rfl, Nat.le_refl _, by have := unhide HSC; rw [unhide HQ, Nat.add_mul, Nat.one_mul] at this; exact this, unhide H6, unhide H0, unhide HB⟩
      case round =>
        obtain ⟨u, uz, fx, fy, rfl, huz, huW, hsc, hv6, hv0, hb⟩ := hrel
        have HUZ := hide huz
        have HSC := hide hsc
        have H6 := hide hv6
        have H0 := hide hv0
        have HB := hide hb
        clear hsc hv6 hv0 hb
        by_cases hu : 0 < u
        · have lu : decide (0 ≤ uz) = true := decide_eq_true (by omega)
          obtain ⟨v, hv⟩ : ∃ v, u = v + 1 := ⟨u - 1, by omega⟩
          have wv : IntKind.i64.wrap (uz - 1) = ((v : Nat) : Int) - 1 := (wrap_i (by omega) (by omega)).trans (by omega)
          have k0 := (unhide H0).cell (m := 0) rfl
          have k1 := (unhide H0).cell (m := 1) rfl
          have k2 := (unhide H0).cell (m := 2) rfl
          have HVV := hide hv
          have hvW : v < W := by omega
          have hu0 : 0 ≤ uz := by omega
          have huv : uz < W := by omega
          clear hv huz
          go_wp2_with fail
          refine (unhide HAB uz pz _ (unhide HB)).mono ?_
          rintro e W2 ⟨rfl, hb2⟩
          have H6b := hide ((unhide H6).bel hb2)
          have H0b := hide ((unhide H0).bel hb2)
          have HBb := hide (bc (unhide HB) hb2)
          have HAA : Hid (Ab W H T z uz pz = decide (z < tp T (q * W + v))) := hide (by
            rw [show uz = (v : Int) by have := unhide HVV; have := unhide HUZ; omega, show pz = (q : Int) by have := unhide HQ; have := unhide HPZ; omega]
            exact Ab_at hvW hqH)
          clear hb2 H6 H0 HB k0 k1 k2
          rw [unhide HAA]
          by_cases hab : z < tp T (q * W + v)
          · rw [decide_eq_true hab]
            have f0 := (unhide H6b).cell (m := 0) rfl
            have f1 := (unhide H6b).cell (m := 1) rfl
            have ff := (unhide H6b).frozen
            have HY := hide (Sc.yes (T := T) (z := z) hvW hqH hab)
            clear hab
            go_wp2_with fail
            go_roundw
            case rel =>
              refine ⟨v, _, (v : Int), (q : Int), rfl, rfl, by omega, unhide HY, ?_, (unhide H0b).ne (by omega) |>.ne (by omega), Below.setCell (Below.setCell (unhide HBb) (Nat.le_of_lt hs1) _) (Nat.le_of_lt hs1) _⟩
              have h9 := ((unhide H6b).set 0 (.int .i64 uz)).set 1 (.int .i64 pz)
              rw [show (v : Int) = uz by have := unhide HVV; have := unhide HUZ; omega, show (q : Int) = pz by have := unhide HQ; have := unhide HPZ; omega]
              exact h9
            case measure => have := unhide HVV; have := unhide HUZ; simp [intOf]; omega
          · rw [decide_eq_false hab]
            have HN := hide (Sc.no (by have := unhide HSC; rw [unhide HVV] at this; exact this) hab)
            clear hab
            go_wp2_with fail
            go_roundw
            case rel =>
              exact ⟨v, _, fx, fy, rfl, rfl, by omega, unhide HN, unhide H6b, unhide H0b, unhide HBb⟩
            case measure => have := unhide HVV; have := unhide HUZ; simp [intOf]; omega
        · have lu : decide (0 ≤ uz) = false := decide_eq_false (by omega)
          obtain rfl : u = 0 := by omega
          go_wp2_with fail
          go_roundw
          case rel =>
            exact ⟨q, _, fx, fy, rfl, rfl, by omega, by simpa using unhide HSC, unhide H6, unhide H0, unhide HB⟩
          case measure => have := unhide HQ; have := unhide HPZ; simp [intOf]; omega
    · have lz : decide (0 ≤ pz) = false := decide_eq_false (by omega)
      obtain rfl : p = 0 := by omega
      have hd := Sc.done (by have := unhide HSC; rwa [Nat.zero_mul] at this)
      have f0 := (unhide H6).cell (m := 0) rfl
      have f1 := (unhide H6).cell (m := 1) rfl
      rcases hd with ⟨hno, rfl⟩ | ⟨x0, y0, rfl, rfl, hfst⟩
      · have HNO := hide hno
        clear hno
        go_wp2_with fail
        (try rw [Exit.noGoto_ret])
        refine bodyPost_ret (v := .tuple #[.slice (some ⟨wr.heap.size, 0, none⟩) 0 0, .int .i64 8]) (by simp [results, Try.results16, go_sem]) rfl ?_
        exact ⟨⟨_, 0, [], 8, rfl, row_made wr 46 w.heap.size 2 (unhide HB).size _ rfl, ⟨fun _ => ⟨rfl, rfl⟩, fun x y K hF _ => absurd hF.ab (Int.not_lt.2 (unhide HNO _ (by have h1 := Nat.mul_le_mul_right W (show y + 1 ≤ H from hF.hy); rw [Nat.add_mul, Nat.one_mul] at h1; have := hF.hx; rw [Nat.mul_comm W H]; omega)))⟩⟩, ba (unhide HB) _⟩
      · have HFS := hide hfst
        have hx0 := hfst.hx
        have hy0 := hfst.hy
        have hx1 : decide ((x0 : Int) < 0) = false := decide_eq_false (by omega)
        obtain ⟨iP, hi1, hp0, hp1, hp2⟩ := info_parts pt46
        have hck := hfst.ok
        obtain ⟨K, hK⟩ := Bck.ex hW hH (Ab_in (W := W) (H := H) (T := T) (z := z)) hck.1
        have HK := hide hK
        have HCK := hide hck.1
        have HS0 : Hid (crn (Ab W H T z) ⟨(x0 : Int), (y0 : Int), 3⟩ 1 = [(x0 : Int), (y0 : Int)]) := hide (by
          show crn (Ab W H T z) ⟨(x0 : Int), (y0 : Int), 3⟩ 0 ++ _ = _
          show [] ++ (if nxd (Ab W H T z) ⟨(x0 : Int), (y0 : Int), 3⟩ = 3 then [] else [(x0 : Int), (y0 : Int)]) = _
          rw [hck.2]
          rfl)
        have HW0 : Hid (Wlk (Ab W H T z) ⟨(x0 : Int), (y0 : Int), 3⟩ K 0 0 (x0 : Int) (y0 : Int)) := hide ⟨hK.one, rfl, rfl, hck.2⟩
        have hKb := hK.le
        clear hK hck hfst hpz
        go_upto_region 19 with fail
        have hA : Below wr.heap.size wr (wr.alloc (.cells #[.int .i64 (x0 : Int), .int .i64 (y0 : Int)] 46)) := ba (Below.refl _ _) _
        have H11a := hide (vb_new wr 46 [.int .i64 (x0 : Int), .int .i64 (y0 : Int)] wr.heap.size rfl)
        have H6a := hide ((unhide H6).bel hA)
        have H0a := hide ((unhide H0).bel hA)
        have HBa := hide (bc (unhide HB) hA)
        have h6lt := (unhide H6).lt
        clear hA H6 H0 HB f0 f1
        generalize wr.alloc (.cells #[.int .i64 (x0 : Int), .int .i64 (y0 : Int)] 46) = Wc at *
        generalize wr.heap.size = b11 at *
        have f0 := (unhide H6a).cell (m := 0) rfl
        have f1 := (unhide H6a).cell (m := 1) rfl
        go_wp2_with fail
        have hA : Below Wc.heap.size Wc (Wc.alloc (.cells #[.int .i64 (x0 : Int), .int .i64 (y0 : Int)] 46)) := ba (Below.refl _ _) _
        have H11 := hide ((unhide H11a).bel hA)
        have H6 := hide ((unhide H6a).bel hA)
        have H0 := hide ((unhide H0a).bel hA)
        have HB := hide (bc (unhide HBa) hA)
        have HR : Hid (Row (Wc.alloc (.cells #[.int .i64 (x0 : Int), .int .i64 (y0 : Int)] 46)) Wc.heap.size 46 2 (.slice (some ⟨Wc.heap.size, 0, none⟩) 1 1) 1 [(x0 : Int), (y0 : Int)]) := hide ⟨by simp, .inr ⟨Wc.heap.size, 1, #[.int .i64 (x0 : Int), .int .i64 (y0 : Int)], rfl, Nat.le_refl _, heap_alloc_new Wc _, Nat.le_refl _, by unfold maxLen; omega, by simp, by simp⟩⟩
        have hq11 := (unhide H11a).lt
        have hqw := (unhide HBa).size
        have hqs0 : Wc.heap.size ≤ (Wc.alloc (.cells #[.int .i64 (x0 : Int), .int .i64 (y0 : Int)] 46)).heap.size := by simp
        clear hA H11a H6a H0a HBa f0 f1
        generalize Wc.alloc (.cells #[.int .i64 (x0 : Int), .int .i64 (y0 : Int)] 46) = Wd at *
        generalize Value.slice (some ⟨Wc.heap.size, 0, none⟩) 1 1 = v12 at *
        generalize Wc.heap.size = Bq at *
        go_loopg [9, 10, 12] K (fun kk a9 a10 a12 X => ∃ (k d l : Nat) (px py : Int), a9 = .int .i64 (wx d) ∧ a10 = .int .i64 (wy d) ∧ kk = K - k ∧ l ≤ k + 1 ∧ Wlk (Ab W H T z) ⟨(x0 : Int), (y0 : Int), 3⟩ K k d px py ∧ Row X Bq 46 2 a12 l (crn (Ab W H T z) ⟨(x0 : Int), (y0 : Int), 3⟩ (k + 1)) ∧ Bq ≤ X.heap.size ∧ vb X b11 46 [.int .i64 px, .int .i64 py] ∧ vb X b6 46 [.int .i64 (x0 : Int), .int .i64 (y0 : Int)] ∧ vb X w.heap.size 25 [.int .i64 (W : Int), .int .i64 (H : Int), .slice (some ⟨g, po, none⟩) n c] ∧ Below w.heap.size w X)
        case atStart => exact ⟨0, 0, 1, _, _, rfl, rfl, rfl, Nat.le_refl _, unhide HW0, by rw [unhide HS0]; exact unhide HR, hqs0, unhide H11, unhide H6, unhide H0, unhide HB⟩
        case round =>
          clear HR H11 H6 H0 HB HW0 HS0
          obtain ⟨k, d, l, px, py, rfl, rfl, hgk, hl, hwk, hrow, hqs, hv11, hv6, hv0, hb⟩ := hrel
          have HGK := hide hgk
          have HWK := hide hwk
          have HR := hide hrow
          have H11 := hide hv11
          have H6 := hide hv6
          have H0 := hide hv0
          have HB := hide hb
          have hok1 := itr_ok (unhide HCK) k
          have hok2 := itr_ok (unhide HCK) (k + 1)
          have hin1 := cok_in (Ab_in (W := W) (H := H) (T := T) (z := z)) hok1
          have hin2 := cok_in (Ab_in (W := W) (H := H) (T := T) (z := z)) hok2
          have hd4 := hok2.d4
          rw [hwk.next] at hin2 hd4
          rw [hwk.hx, hwk.hy] at hin1
          simp only at hin2 hd4
          obtain ⟨ux, hux⟩ : ∃ ux, px + wx d = ux := ⟨_, rfl⟩
          obtain ⟨uy, huy⟩ : ∃ uy, py + wy d = uy := ⟨_, rfl⟩
          rw [hux, huy] at hin2
          have hkl := hwk.lt
          have wX : IntKind.i64.wrap (px + wx d) = ux := (wrap_i (by omega) (by omega)).trans hux
          have wY : IntKind.i64.wrap (py + wy d) = uy := (wrap_i (by omega) (by omega)).trans huy
          have HUX := hide hux
          have HUY := hide huy
          have c0 := (unhide H11).cell (m := 0) rfl
          have c1 := (unhide H11).cell (m := 1) rfl
          have cf := (unhide H11).frozen
          have hbx := wx_bd d
          have hby := wy_bd d
          have hu1 : -1000 ≤ ux ∧ ux ≤ 1000 := by omega
          have hu2 : -1000 ≤ uy ∧ uy ≤ 1000 := by omega
          clear hgk hwk hrow hv11 hv6 hv0 hb hok1 hok2 hin1 hin2 hux huy
          go_upto_region 21 with fail
          have hb6 : b6 ≠ b11 := by omega
          have hb0 : w.heap.size ≠ b11 := by omega
          have H11b := hide (((unhide H11).set 0 (.int .i64 ux)).set 1 (.int .i64 uy))
          have H6b := hide (((unhide H6).ne (o := 0) (x := .int .i64 ux) hb6).ne (o := 1) (x := .int .i64 uy) hb6)
          have H0b := hide (((unhide H0).ne (o := 0) (x := .int .i64 ux) hb0).ne (o := 1) (x := .int .i64 uy) hb0)
          have HRb : Hid (Row ((wr.setCell ⟨b11, 0, none⟩ (.int .i64 ux)).setCell ⟨b11, 1, none⟩ (.int .i64 uy)) Bq 46 2 u12 l (crn (Ab W H T z) ⟨(x0 : Int), (y0 : Int), 3⟩ (k + 1))) := hide ((unhide HR).kept' (fun gg hgg => by
            have hne : gg ≠ b11 := by have := ((unhide HR).lt gg hgg).1; omega
            exact (Below.heap_setCell _ _ _ _ hne).trans (Below.heap_setCell _ _ _ _ hne)))
          have HQb : Hid (Bq ≤ ((wr.setCell ⟨b11, 0, none⟩ (.int .i64 ux)).setCell ⟨b11, 1, none⟩ (.int .i64 uy)).heap.size) := hide (by have := hqs; simpa using this)
          have HBb := hide (((unhide HB).setCell (p := ⟨b11, 0, none⟩) (show w.heap.size ≤ b11 by omega) (.int .i64 ux)).setCell (p := ⟨b11, 1, none⟩) (show w.heap.size ≤ b11 by omega) (.int .i64 uy))
          have h11lt : b11 < ((wr.setCell ⟨b11, 0, none⟩ (.int .i64 ux)).setCell ⟨b11, 1, none⟩ (.int .i64 uy)).heap.size := (unhide H11b).lt
          clear HR H11 H6 H0 HB c0 c1 cf
          generalize (wr.setCell ⟨b11, 0, none⟩ (.int .i64 ux)).setCell ⟨b11, 1, none⟩ (.int .i64 uy) = We at *
          have c0 := (unhide H11b).cell (m := 0) rfl
          have c1 := (unhide H11b).cell (m := 1) rfl
          have f0 := (unhide H6b).cell (m := 0) rfl
          have f1 := (unhide H6b).cell (m := 1) rfl
          by_cases heq : ux = (x0 : Int) ∧ uy = (y0 : Int)
          · have he : ∀ X, (binOp .eql 46 (.agg #[.int .i64 ux, .int .i64 uy]) (.agg #[.int .i64 (x0 : Int), .int .i64 (y0 : Int)])).run Try.prog X = .ok (.bool true) X := fun X => by rw [eql46, decide_eq_true heq]
            have HEQ := hide heq
            clear heq
            go_wp2_with fail
            (try rw [Exit.noGoto_ret])
            refine bodyPost_ret (v := .tuple #[u12, .int .i64 0]) (by simp [results, Try.results16, go_sem]) rfl ?_
            refine ⟨⟨_, l, _, 0, rfl, (unhide HRb).mono hqw, ⟨fun hno => absurd (unhide HFS).ab (hno _ (ix_lt hx0 hy0)), fun x y K' hF hB' => ?_⟩⟩, unhide HBb⟩
            obtain ⟨rfl, rfl⟩ := hF.uniq (unhide HFS)
            obtain rfl := hB'.uniq (unhide HK)
            have hkK : k + 1 = K' := by
              rcases Nat.lt_or_eq_of_le (show k + 1 ≤ K' by omega) with h1 | h1
              · exfalso
                refine (unhide HK).no (k + 1) (by omega) h1 ?_
                rw [(unhide HWK).next]
                have := unhide HUX
                have := unhide HUY
                have := unhide HEQ
                exact ⟨by show px + wx d = (x : Int); omega, by show py + wy d = (y : Int); omega⟩
              · exact h1
            rw [← hkK]
            exact ⟨rfl, rfl⟩
          · have he : ∀ X, (binOp .eql 46 (.agg #[.int .i64 ux, .int .i64 uy]) (.agg #[.int .i64 (x0 : Int), .int .i64 (y0 : Int)])).run Try.prog X = .ok (.bool false) X := fun X => by rw [eql46, decide_eq_false heq]
            have hk1 : k + 1 < K := by
              rcases Nat.lt_or_eq_of_le (show k + 1 ≤ K by omega) with h1 | h1
              · exact h1
              · exfalso
                have h2 := (unhide HK).at'
                rw [← h1, (unhide HWK).next] at h2
                have := unhide HUX
                have := unhide HUY
                exact heq ⟨by have : px + wx d = (x0 : Int) := h2.1; omega, by have : py + wy d = (y0 : Int) := h2.2; omega⟩
            obtain ⟨lx, hlx⟩ : ∃ lx, ux + qx d = lx := ⟨_, rfl⟩
            obtain ⟨ly, hly⟩ : ∃ ly, uy + qy d = ly := ⟨_, rfl⟩
            obtain ⟨rx, hrx⟩ : ∃ rx, ux + qx (rt d) = rx := ⟨_, rfl⟩
            obtain ⟨ry, hry⟩ : ∃ ry, uy + qy (rt d) = ry := ⟨_, rfl⟩
            have HL : Hid (∀ X, Calls Try.prog 57 #[.agg #[.int .i64 ux, .int .i64 uy], .int .i64 (wx d), .int .i64 (wy d), .bool true] X fun e w' => e = .returned (.tuple #[.int .i64 lx, .int .i64 ly]) ∧ Below X.heap.size X w') := hide (fun X => by rw [← hlx, ← hly]; exact ahM_any d hd4 true ux uy X hu1 hu2)
            have HRR : Hid (∀ X, Calls Try.prog 57 #[.agg #[.int .i64 ux, .int .i64 uy], .int .i64 (wx d), .int .i64 (wy d), .bool false] X fun e w' => e = .returned (.tuple #[.int .i64 rx, .int .i64 ry]) ∧ Below X.heap.size X w') := hide (fun X => by rw [← hrx, ← hry]; exact ahM_any d hd4 false ux uy X hu1 hu2)
            have HCL : Hid (col (Ab W H T z) ⟨px + wx d, py + wy d, d⟩ d = Ab W H T z lx ly) := hide (by rw [unhide HUX, unhide HUY, ← hlx, ← hly]; rfl)
            have HCR : Hid (col (Ab W H T z) ⟨px + wx d, py + wy d, d⟩ (rt d) = Ab W H T z rx ry) := hide (by rw [unhide HUX, unhide HUY, ← hrx, ← hry]; rfl)
            have wl := w_lf hd4
            have wr' := w_rt hd4
            have HWL := hide wl
            have HWR := hide wr'
            have n1 : IntKind.i64.wrap (-(wy d)) = wx (lf d) := (wrap_i (by omega) (by omega)).trans wl.1.symm
            have n2 : IntKind.i64.wrap (-(wx d)) = wy (rt d) := (wrap_i (by omega) (by omega)).trans wr'.2.1.symm
            clear heq hlx hly hrx hry wl wr'
            go_upto_region 23 with fail
            go_wp2_with fail
            refine (unhide HL _).mono ?_
            rintro e W2 ⟨rfl, hb2⟩
            have H11c := hide ((unhide H11b).bel hb2)
            have H6c := hide ((unhide H6b).bel hb2)
            have H0c := hide ((unhide H0b).bel hb2)
            have HRc := hide ((unhide HRb).below hb2)
            have HBc := hide (bc (unhide HBb) hb2)
            have HQc := hide (Nat.le_trans (unhide HQb) hb2.size)
            clear hb2 H11b H6b H0b HRb HBb c0 c1 f0 f1 he h11lt
            have c0 := (unhide H11c).cell (m := 0) rfl
            have c1 := (unhide H11c).cell (m := 1) rfl
            go_wp2_with fail
            refine (unhide HRR _).mono ?_
            rintro e W3 ⟨rfl, hb2⟩
            have H11d := hide ((unhide H11c).bel hb2)
            have H6d := hide ((unhide H6c).bel hb2)
            have H0d := hide ((unhide H0c).bel hb2)
            have HRd := hide ((unhide HRc).below hb2)
            have HBd := hide (bc (unhide HBc) hb2)
            have HQd := hide (Nat.le_trans (unhide HQc) hb2.size)
            clear hb2 H11c H6c H0c HRc HBc c0 c1
            have k0 := (unhide H0d).cell (m := 0) rfl
            have k1 := (unhide H0d).cell (m := 1) rfl
            have k2 := (unhide H0d).cell (m := 2) rfl
            go_wp2_with fail
            refine (unhide HAB lx ly _ (unhide HBd)).mono ?_
            rintro e W4 ⟨rfl, hb2⟩
            have H11e := hide ((unhide H11d).bel hb2)
            have H6e := hide ((unhide H6d).bel hb2)
            have H0e := hide ((unhide H0d).bel hb2)
            have HRe := hide ((unhide HRd).below hb2)
            have HBe := hide (bc (unhide HBd) hb2)
            have HQe := hide (Nat.le_trans (unhide HQd) hb2.size)
            clear hb2 H11d H6d H0d HRd HBd k0 k1 k2
            have c0 := (unhide H11e).cell (m := 0) rfl
            have c1 := (unhide H11e).cell (m := 1) rfl
            cases hcl : Ab W H T z lx ly with
            | false =>
              have HND : Hid (nxd (Ab W H T z) ⟨px + wx d, py + wy d, d⟩ = lf d) := hide (by
                unfold nxd
                rw [if_pos ((unhide HCL).trans hcl)])
              clear hcl
              go_wp2_with (at_builtin; refine unhide ?_)
              refine hide ?_
              refine wpList_append_own _ rfl _ _ 41 rfl Bq 46 iP _ 2 16 Try.underlying41 hi1 hp0 hp1 hp2 rfl (by decide) _ _ _ rfl ((unhide HRe).alloc _) _ 1 1 ([ux, uy].map (Value.int .i64)) rfl rfl (by first | exact news_cells _ _ rfl | exact news_cells _ _ (by simp) | exact news_drew _ _ (by simp)) ints_one (by unfold maxLen; omega) (by omega) (by have := unhide HQe; simp; omega) ?_
              intro v' wz hown' hgrow _
              have hszw := unhide HQe
              have R := hide (own_more (wr := W4) (news := [ux, uy]) (by repeat (first | exact Below.refl _ _ | refine Below.alloc ?_ (by first | omega | (simp; omega)) _ | refine Below.drew ?_)) (by simp; omega) (unhide HRe) hown' hgrow)
              clear hown' hgrow
              go_wp2_with fail
              go_roundg (K - (k + 1))
              case measure => have := unhide HGK; omega
              case rel => exact ⟨k + 1, lf d, l + 1, ux, uy, by first | rfl | rw [(unhide HWL).1], by first | rfl | rw [(unhide HWL).2.1], rfl, by omega, by have h9 := (unhide HWK).go hk1 (unhide HND); rw [unhide HUX, unhide HUY] at h9; exact h9, by rw [crn_turn (unhide HWK) (unhide HND) (unhide HWL).2.2, unhide HUX, unhide HUY]; exact (unhide R).1, by have := (unhide R).2.size; omega, (unhide H11e).below (unhide R).2 hq11, (unhide H6e).below (unhide R).2 (by omega), (unhide H0e).below (unhide R).2 (by omega), (unhide HBe).trans ((unhide R).2.mono (by omega))⟩
            | true =>
              rw [hcl] at HCL
              clear hcl
              have k0 := (unhide H0e).cell (m := 0) rfl
              have k1 := (unhide H0e).cell (m := 1) rfl
              have k2 := (unhide H0e).cell (m := 2) rfl
              go_wp2_with fail
              refine (unhide HAB rx ry _ (unhide HBe)).mono ?_
              rintro e W5 ⟨rfl, hb2⟩
              have H11f := hide ((unhide H11e).bel hb2)
              have H6f := hide ((unhide H6e).bel hb2)
              have H0f := hide ((unhide H0e).bel hb2)
              have HRf := hide ((unhide HRe).below hb2)
              have HBf := hide (bc (unhide HBe) hb2)
              have HQf := hide (Nat.le_trans (unhide HQe) hb2.size)
              clear hb2 H11e H6e H0e HRe HBe k0 k1 k2 c0 c1
              have c0 := (unhide H11f).cell (m := 0) rfl
              have c1 := (unhide H11f).cell (m := 1) rfl
              cases hcr : Ab W H T z rx ry with
              | true =>
                have HND : Hid (nxd (Ab W H T z) ⟨px + wx d, py + wy d, d⟩ = rt d) := hide (by
                  unfold nxd
                  rw [if_neg (by rw [unhide HCL]; simp), if_pos ((unhide HCR).trans hcr)])
                clear hcr
                go_wp2_with (at_builtin; refine unhide ?_)
                refine hide ?_
                refine wpList_append_own _ rfl _ _ 41 rfl Bq 46 iP _ 2 16 Try.underlying41 hi1 hp0 hp1 hp2 rfl (by decide) _ _ _ rfl ((unhide HRf).alloc _) _ 1 1 ([ux, uy].map (Value.int .i64)) rfl rfl (by first | exact news_cells _ _ rfl | exact news_cells _ _ (by simp) | exact news_drew _ _ (by simp)) ints_one (by unfold maxLen; omega) (by omega) (by have := unhide HQf; simp; omega) ?_
                intro v' wz hown' hgrow _
                have hszw := unhide HQf
                have R := hide (own_more (wr := W5) (news := [ux, uy]) (by repeat (first | exact Below.refl _ _ | refine Below.alloc ?_ (by first | omega | (simp; omega)) _ | refine Below.drew ?_)) (by simp; omega) (unhide HRf) hown' hgrow)
                clear hown' hgrow
                go_wp2_with fail
                go_roundg (K - (k + 1))
                case measure => have := unhide HGK; omega
                case rel => exact ⟨k + 1, rt d, l + 1, ux, uy, by first | rfl | rw [(unhide HWR).1], by first | rfl | rw [(unhide HWR).2.1], rfl, by omega, by have h9 := (unhide HWK).go hk1 (unhide HND); rw [unhide HUX, unhide HUY] at h9; exact h9, by rw [crn_turn (unhide HWK) (unhide HND) (unhide HWR).2.2, unhide HUX, unhide HUY]; exact (unhide R).1, by have := (unhide R).2.size; omega, (unhide H11f).below (unhide R).2 hq11, (unhide H6f).below (unhide R).2 (by omega), (unhide H0f).below (unhide R).2 (by omega), (unhide HBf).trans ((unhide R).2.mono (by omega))⟩
              | false =>
                have HND : Hid (nxd (Ab W H T z) ⟨px + wx d, py + wy d, d⟩ = d) := hide (by
                  unfold nxd
                  rw [if_neg (by rw [unhide HCL]; simp), if_neg (by rw [unhide HCR, hcr]; simp)])
                clear hcr
                go_wp2_with fail
                go_roundg (K - (k + 1))
                case measure => have := unhide HGK; omega
                case rel => exact ⟨k + 1, d, l, ux, uy, rfl, rfl, rfl, by omega, by have h9 := (unhide HWK).go hk1 (unhide HND); rw [unhide HUX, unhide HUY] at h9; exact h9, by rw [crn_stay (unhide HWK) (unhide HND)]; exact unhide HRf, unhide HQf, unhide H11f, unhide H6f, unhide H0f, unhide HBf⟩
end Go.Proofs.Ytjhldjojkaphkaa
