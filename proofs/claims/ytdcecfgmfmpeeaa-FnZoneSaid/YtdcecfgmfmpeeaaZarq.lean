/-
  Two statements of strips, walked alone: a strip is told.
-/
import Derived.Test.YtdcecfgmfmpeeaaZfnq
import Derived.Test.YtdcecfgmfmpeeaaLeavesq
namespace Go.Proofs.Ytdcecfgmfmpeeaa
open Go.ChangeShapes Go.WideShapes Go.ChangeAt Go.RowKit
set_option linter.unusedVariables false
set_option linter.unusedSimpArgs false
noncomputable def regOfZ (id : Nat) : Go.Code → Option Go.Code
 | .region i ops b => if i = id then some (.region i ops b) else none
 | .seq a b => match regOfZ id a with | some c => some c | none => regOfZ id b
 | .cond _ a b => match regOfZ id a with | some c => some c | none => regOfZ id b
 | .block _ c => regOfZ id c
 | .loop c => regOfZ id c
 | .scope c => regOfZ id c
 | _ => none
noncomputable def reg24 (id : Nat) : Go.Code := match Try.f24.body with | some c => (regOfZ id c).getD .skip | none => .skip
set_option maxHeartbeats 4000000 in
set_option maxRecDepth 100000 in
theorem za10 {s1 s2 s8 s9 s10 s11 s12 s13 s14 s15 s16 s17 s18 s19 s20 s21 s22 s23 s24 s25 s26 s27 s28 s29 s30 s31 s32 s33 s34 s35 s36 s37 s38 s39 s40 s41 s42 s43 s44 s45 s46 s47 s48 s49 s50 : Value} {b cap n b3 b4 b5 : Nat} {ja jb fa : Nat} {a1 a2 c1 c2 w1 w2 mo dd : Int} {V : World} {K_ : Act → World → Prop} (hb4 : b4 < V.heap.size)
  (H3c0 : Hid (V.cell? ⟨b3, 0, none⟩ = some (.int .i64 a1))) (H3c1 : Hid (V.cell? ⟨b3, 1, none⟩ = some (.int .i64 a2))) (H3c2 : Hid (V.cell? ⟨b3, 2, none⟩ = some (.int .i64 c1))) (H3c3 : Hid (V.cell? ⟨b3, 3, none⟩ = some (.int .i64 c2)))
  (H5c0 : Hid (V.cell? ⟨b5, 0, none⟩ = some (.int .i64 w1))) (H5c1 : Hid (V.cell? ⟨b5, 1, none⟩ = some (.int .i64 w2)))
  (H4 : Hid (∀ o, o < 5 → V.cell? ⟨b4, o, none⟩ = some (.int .i64 0))) (H4f : Hid (∀ o, V.frozen? ⟨b4, o, none⟩ = false)) (HW : Hid (IntKind.i64.wrap (mo * mo) = mo * mo))
  (HA : Hid (∀ X, Below V.heap.size V X → Calls Try.prog 53 #[.slice (some ⟨b, 0, none⟩) n cap, .agg #[.int .i64 (a1), .int .i64 (a2)]] X fun e w' => e = .returned (.int .i64 (ja : Int)) ∧ Below X.heap.size X w'))
  (HB : Hid (∀ X, Below V.heap.size V X → Calls Try.prog 53 #[.slice (some ⟨b, 0, none⟩) n cap, .agg #[.int .i64 (c1), .int .i64 (c2)]] X fun e w' => e = .returned (.int .i64 (jb : Int)) ∧ Below X.heap.size X w'))
  (HD : Hid (∀ X, Below V.heap.size V X → Calls Try.prog 54 #[.agg #[.int .i64 (w1), .int .i64 (w2)], .agg #[.int .i64 (w1), .int .i64 (w2)]] X fun e w' => e = .returned (.int .i64 (dd)) ∧ Below X.heap.size X w'))
  (hQ : ∀ (W1 : World), Below V.heap.size V W1 → K_ { tmps := #[.slice (some ⟨b, 0, none⟩) n cap, s1, s2, .pointer (some ⟨b3, 0, none⟩), .pointer (some ⟨b4, 0, none⟩), .pointer (some ⟨b5, 0, none⟩), .int .i64 (fa : Int), .int .i64 (mo), s8, s9, s10, s11, s12, s13, s14, s15, s16, s17, s18, s19, s20, s21, s22, s23, s24, s25, s26, s27, s28, s29, s30, s31, s32, s33, s34, .slice (some ⟨b, 0, none⟩) n cap, .pointer (some ⟨b3, 0, none⟩), .agg #[.int .i64 (a1), .int .i64 (a2)], .int .i64 (ja : Int), .slice (some ⟨b, 0, none⟩) n cap, .pointer (some ⟨b3, 2, none⟩), .agg #[.int .i64 (c1), .int .i64 (c2)], .int .i64 (jb : Int), .int .i64 (fa : Int), .int .i64 (mo), .int .i64 (mo), .int .i64 (mo * mo), .agg #[.int .i64 (w1), .int .i64 (w2)], .agg #[.int .i64 (w1), .int .i64 (w2)], .int .i64 (dd), .agg #[.int .i64 (ja : Int), .int .i64 (jb : Int), .int .i64 (fa : Int), .int .i64 (mo * mo), .int .i64 (dd)]], defers := [] } (((((W1.setCell ⟨b4, 0, none⟩ (.int .i64 (ja : Int))).setCell ⟨b4, 1, none⟩ (.int .i64 (jb : Int))).setCell ⟨b4, 2, none⟩ (.int .i64 (fa : Int))).setCell ⟨b4, 3, none⟩ (.int .i64 (mo * mo))).setCell ⟨b4, 4, none⟩ (.int .i64 (dd)))) :
  Go.Code.wp Try.prog (reg24 10) (Only K_) { tmps := #[.slice (some ⟨b, 0, none⟩) n cap, s1, s2, .pointer (some ⟨b3, 0, none⟩), .pointer (some ⟨b4, 0, none⟩), .pointer (some ⟨b5, 0, none⟩), .int .i64 (fa : Int), .int .i64 (mo), s8, s9, s10, s11, s12, s13, s14, s15, s16, s17, s18, s19, s20, s21, s22, s23, s24, s25, s26, s27, s28, s29, s30, s31, s32, s33, s34, s35, s36, s37, s38, s39, s40, s41, s42, s43, s44, s45, s46, s47, s48, s49, s50], defers := [] } V := by
 have HQ := hide hQ
 clear hQ
 conv => arg 2; whnf
 refine wp_region_inv (fun Lb A W => ∃ (u0 u1 u2 u3 u4 u5 u6 u7 u8 u9 u10 u11 u12 u13 u14 u15 u16 : Bool) (dm : Nat), Lb = #[u0, u1, u2, u3, u4, u5, u6, u7, u8, u9, u10, u11, u12, u13, u14, u15, u16] ∧ A = ({ tmps := #[.slice (some ⟨b, 0, none⟩) n cap, s1, s2, .pointer (some ⟨b3, 0, none⟩), .pointer (some ⟨b4, 0, none⟩), .pointer (some ⟨b5, 0, none⟩), .int .i64 (fa : Int), .int .i64 (mo), s8, s9, s10, s11, s12, s13, s14, s15, s16, s17, s18, s19, s20, s21, s22, s23, s24, s25, s26, s27, s28, s29, s30, s31, s32, s33, s34, (bif u0 then .slice (some ⟨b, 0, none⟩) n cap else s35), (bif u1 then .pointer (some ⟨b3, 0, none⟩) else s36), (bif u2 then .agg #[.int .i64 (a1), .int .i64 (a2)] else s37), (bif u3 then .int .i64 (ja : Int) else s38), (bif u4 then .slice (some ⟨b, 0, none⟩) n cap else s39), (bif u5 then .pointer (some ⟨b3, 2, none⟩) else s40), (bif u6 then .agg #[.int .i64 (c1), .int .i64 (c2)] else s41), (bif u7 then .int .i64 (jb : Int) else s42), (bif u8 then .int .i64 (fa : Int) else s43), (bif u9 then .int .i64 (mo) else s44), (bif u10 then .int .i64 (mo) else s45), (bif u11 then .int .i64 (mo * mo) else s46), (bif u12 then .agg #[.int .i64 (w1), .int .i64 (w2)] else s47), (bif u13 then .agg #[.int .i64 (w1), .int .i64 (w2)] else s48), (bif u14 then .int .i64 (dd) else s49), (bif u15 then .agg #[.int .i64 (ja : Int), .int .i64 (jb : Int), .int .i64 (fa : Int), .int .i64 (mo * mo), .int .i64 (dd)] else s50)], defers := [] } : Act) ∧ (u16 = false → Below V.heap.size V W) ∧ (u16 = true → ∃ W1, Below V.heap.size V W1 ∧ W = ((((W1.setCell ⟨b4, 0, none⟩ (.int .i64 (ja : Int))).setCell ⟨b4, 1, none⟩ (.int .i64 (jb : Int))).setCell ⟨b4, 2, none⟩ (.int .i64 (fa : Int))).setCell ⟨b4, 3, none⟩ (.int .i64 (mo * mo))).setCell ⟨b4, 4, none⟩ (.int .i64 (dd))) ∧ (u2 = true → u1 = true) ∧ (u3 = true → u0 = true ∧ u2 = true) ∧ (u6 = true → u5 = true) ∧ (u7 = true → u4 = true ∧ u6 = true) ∧ (u11 = true → u9 = true ∧ u10 = true) ∧ (u14 = true → u12 = true ∧ u13 = true) ∧ (u15 = true → u3 = true ∧ u7 = true ∧ u8 = true ∧ u11 = true ∧ u14 = true) ∧ (u16 = true → u0 = true ∧ u1 = true ∧ u2 = true ∧ u3 = true ∧ u4 = true ∧ u5 = true ∧ u6 = true ∧ u7 = true ∧ u8 = true ∧ u9 = true ∧ u10 = true ∧ u11 = true ∧ u12 = true ∧ u13 = true ∧ u14 = true ∧ u15 = true)) (by kernel_rfl) (by kernel_rfl) ?h0 ?hstep ?hend
 case h0 =>
  exact ⟨false, false, false, false, false, false, false, false, false, false, false, false, false, false, false, false, false, 0, rfl, rfl, (fun _ => Below.drew (Below.refl _ _)), (fun h => nomatch h), (fun h => nomatch h), (fun h => nomatch h), (fun h => nomatch h), (fun h => nomatch h), (fun h => nomatch h), (fun h => nomatch h), (fun h => nomatch h), (fun h => nomatch h)⟩
 case hstep =>
  rintro Lb A W ⟨u0, u1, u2, u3, u4, u5, u6, u7, u8, u9, u10, u11, u12, u13, u14, u15, u16, dm, rfl, rfl, kB, kZ, c2, c3, c6, c7, c11, c14, c15, kF⟩
  refine ⟨?_, ?_, ?_, ?_, ?_, ?_, ?_, ?_, ?_, ?_, ?_, ?_, ?_, ?_, ?_, ?_, ?_, trivial⟩
  ·intro h0 hd K hK
   have z : u0 = false := h0
   have z16_ : u16 = false := by
    cases hu : u16 with
    | false => rfl
    | true => exact nomatch z.symm.trans ((kF hu).1)
   have H_kB := hide kB
   have H_kZ := hide kZ
   have H_c2 := hide c2
   have H_c3 := hide c3
   have H_c6 := hide c6
   have H_c7 := hide c7
   have H_c11 := hide c11
   have H_c14 := hide c14
   have H_c15 := hide c15
   have H_kF := hide kF
   clear kB kZ c2 c3 c6 c7 c11 c14 c15 kF
   subst z16_
   subst z
   clear h0 hd
   rw [if_pos (by rfl)]
   go_simp
   exact zu hK _ _ ⟨true, u1, u2, u3, u4, u5, u6, u7, u8, u9, u10, u11, u12, u13, u14, u15, false, dm, rfl, rfl, zu H_kB, (fun h => nomatch h), zu H_c2, (fun h => ⟨rfl, (zu H_c3 h).2⟩), zu H_c6, zu H_c7, zu H_c11, zu H_c14, zu H_c15, (fun h => nomatch h)⟩
  ·intro h0 hd K hK
   have z : u1 = false := h0
   have z16_ : u16 = false := by
    cases hu : u16 with
    | false => rfl
    | true => exact nomatch z.symm.trans ((kF hu).2.1)
   have H_kB := hide kB
   have H_kZ := hide kZ
   have H_c2 := hide c2
   have H_c3 := hide c3
   have H_c6 := hide c6
   have H_c7 := hide c7
   have H_c11 := hide c11
   have H_c14 := hide c14
   have H_c15 := hide c15
   have H_kF := hide kF
   clear kB kZ c2 c3 c6 c7 c11 c14 c15 kF
   subst z16_
   subst z
   clear h0 hd
   rw [if_pos (by rfl)]
   go_simp
   exact zu hK _ _ ⟨u0, true, u2, u3, u4, u5, u6, u7, u8, u9, u10, u11, u12, u13, u14, u15, false, dm, rfl, rfl, zu H_kB, (fun h => nomatch h), (fun h => rfl), zu H_c3, zu H_c6, zu H_c7, zu H_c11, zu H_c14, zu H_c15, (fun h => nomatch h)⟩
  ·intro h0 hd K hK
   have z : u2 = false := h0
   have z16_ : u16 = false := by
    cases hu : u16 with
    | false => rfl
    | true => exact nomatch z.symm.trans ((kF hu).2.2.1)
   have zd : u1 = true := by
    simp [Region.binds] at hd
    simp [hd]
   have H_kB := hide kB
   have H_kZ := hide kZ
   have H_c2 := hide c2
   have H_c3 := hide c3
   have H_c6 := hide c6
   have H_c7 := hide c7
   have H_c11 := hide c11
   have H_c14 := hide c14
   have H_c15 := hide c15
   have H_kF := hide kF
   clear kB kZ c2 c3 c6 c7 c11 c14 c15 kF
   obtain ⟨rfl⟩ := zd
   subst z16_
   subst z
   clear h0 hd
   rw [if_pos (by rfl)]
   have c0 := keep1 (zu H_kB rfl) (zu H3c0)
   have c1 := keep1 (zu H_kB rfl) (zu H3c1)
   go_simp
   exact zu hK _ _ ⟨u0, true, true, u3, u4, u5, u6, u7, u8, u9, u10, u11, u12, u13, u14, u15, false, dm, rfl, rfl, zu H_kB, (fun h => nomatch h), (fun _ => rfl), (fun h => ⟨(zu H_c3 h).1, rfl⟩), zu H_c6, zu H_c7, zu H_c11, zu H_c14, zu H_c15, (fun h => nomatch h)⟩
  ·intro h0 hd K hK
   have z : u3 = false := h0
   have z16_ : u16 = false := by
    cases hu : u16 with
    | false => rfl
    | true => exact nomatch z.symm.trans ((kF hu).2.2.2.1)
   have zd : u0 = true ∧ u2 = true := by
    simp [Region.binds] at hd
    simp [hd]
   have H_kB := hide kB
   have H_kZ := hide kZ
   have H_c2 := hide c2
   have H_c3 := hide c3
   have H_c6 := hide c6
   have H_c7 := hide c7
   have H_c11 := hide c11
   have H_c14 := hide c14
   have H_c15 := hide c15
   have H_kF := hide kF
   clear kB kZ c2 c3 c6 c7 c11 c14 c15 kF
   obtain ⟨rfl, rfl⟩ := zd
   subst z16_
   subst z
   clear h0 hd
   rw [if_pos (by rfl)]
   go_simp
   refine (zu HA W (zu H_kB rfl)).mono ?_
   rintro e w8 ⟨rfl, hb8⟩
   exact zu hK _ _ ⟨true, u1, true, true, u4, u5, u6, u7, u8, u9, u10, u11, u12, u13, u14, u15, false, dm, rfl, rfl, (fun _ => bc (zu H_kB rfl) hb8), (fun h => nomatch h), zu H_c2, (fun _ => ⟨rfl, rfl⟩), zu H_c6, zu H_c7, zu H_c11, zu H_c14, (fun h => ⟨rfl, (zu H_c15 h).2.1, (zu H_c15 h).2.2.1, (zu H_c15 h).2.2.2.1, (zu H_c15 h).2.2.2.2⟩), (fun h => nomatch h)⟩
  ·intro h0 hd K hK
   have z : u4 = false := h0
   have z16_ : u16 = false := by
    cases hu : u16 with
    | false => rfl
    | true => exact nomatch z.symm.trans ((kF hu).2.2.2.2.1)
   have H_kB := hide kB
   have H_kZ := hide kZ
   have H_c2 := hide c2
   have H_c3 := hide c3
   have H_c6 := hide c6
   have H_c7 := hide c7
   have H_c11 := hide c11
   have H_c14 := hide c14
   have H_c15 := hide c15
   have H_kF := hide kF
   clear kB kZ c2 c3 c6 c7 c11 c14 c15 kF
   subst z16_
   subst z
   clear h0 hd
   rw [if_pos (by rfl)]
   go_simp
   exact zu hK _ _ ⟨u0, u1, u2, u3, true, u5, u6, u7, u8, u9, u10, u11, u12, u13, u14, u15, false, dm, rfl, rfl, zu H_kB, (fun h => nomatch h), zu H_c2, zu H_c3, zu H_c6, (fun h => ⟨rfl, (zu H_c7 h).2⟩), zu H_c11, zu H_c14, zu H_c15, (fun h => nomatch h)⟩
  ·intro h0 hd K hK
   have z : u5 = false := h0
   have z16_ : u16 = false := by
    cases hu : u16 with
    | false => rfl
    | true => exact nomatch z.symm.trans ((kF hu).2.2.2.2.2.1)
   have H_kB := hide kB
   have H_kZ := hide kZ
   have H_c2 := hide c2
   have H_c3 := hide c3
   have H_c6 := hide c6
   have H_c7 := hide c7
   have H_c11 := hide c11
   have H_c14 := hide c14
   have H_c15 := hide c15
   have H_kF := hide kF
   clear kB kZ c2 c3 c6 c7 c11 c14 c15 kF
   subst z16_
   subst z
   clear h0 hd
   rw [if_pos (by rfl)]
   go_simp
   exact zu hK _ _ ⟨u0, u1, u2, u3, u4, true, u6, u7, u8, u9, u10, u11, u12, u13, u14, u15, false, dm, rfl, rfl, zu H_kB, (fun h => nomatch h), zu H_c2, zu H_c3, (fun h => rfl), zu H_c7, zu H_c11, zu H_c14, zu H_c15, (fun h => nomatch h)⟩
  ·intro h0 hd K hK
   have z : u6 = false := h0
   have z16_ : u16 = false := by
    cases hu : u16 with
    | false => rfl
    | true => exact nomatch z.symm.trans ((kF hu).2.2.2.2.2.2.1)
   have zd : u5 = true := by
    simp [Region.binds] at hd
    simp [hd]
   have H_kB := hide kB
   have H_kZ := hide kZ
   have H_c2 := hide c2
   have H_c3 := hide c3
   have H_c6 := hide c6
   have H_c7 := hide c7
   have H_c11 := hide c11
   have H_c14 := hide c14
   have H_c15 := hide c15
   have H_kF := hide kF
   clear kB kZ c2 c3 c6 c7 c11 c14 c15 kF
   obtain ⟨rfl⟩ := zd
   subst z16_
   subst z
   clear h0 hd
   rw [if_pos (by rfl)]
   have c0 := keep1 (zu H_kB rfl) (zu H3c2)
   have c1 := keep1 (zu H_kB rfl) (zu H3c3)
   go_simp
   exact zu hK _ _ ⟨u0, u1, u2, u3, u4, true, true, u7, u8, u9, u10, u11, u12, u13, u14, u15, false, dm, rfl, rfl, zu H_kB, (fun h => nomatch h), zu H_c2, zu H_c3, (fun _ => rfl), (fun h => ⟨(zu H_c7 h).1, rfl⟩), zu H_c11, zu H_c14, zu H_c15, (fun h => nomatch h)⟩
  ·intro h0 hd K hK
   have z : u7 = false := h0
   have z16_ : u16 = false := by
    cases hu : u16 with
    | false => rfl
    | true => exact nomatch z.symm.trans ((kF hu).2.2.2.2.2.2.2.1)
   have zd : u4 = true ∧ u6 = true := by
    simp [Region.binds] at hd
    simp [hd]
   have H_kB := hide kB
   have H_kZ := hide kZ
   have H_c2 := hide c2
   have H_c3 := hide c3
   have H_c6 := hide c6
   have H_c7 := hide c7
   have H_c11 := hide c11
   have H_c14 := hide c14
   have H_c15 := hide c15
   have H_kF := hide kF
   clear kB kZ c2 c3 c6 c7 c11 c14 c15 kF
   obtain ⟨rfl, rfl⟩ := zd
   subst z16_
   subst z
   clear h0 hd
   rw [if_pos (by rfl)]
   go_simp
   refine (zu HB W (zu H_kB rfl)).mono ?_
   rintro e w8 ⟨rfl, hb8⟩
   exact zu hK _ _ ⟨u0, u1, u2, u3, true, u5, true, true, u8, u9, u10, u11, u12, u13, u14, u15, false, dm, rfl, rfl, (fun _ => bc (zu H_kB rfl) hb8), (fun h => nomatch h), zu H_c2, zu H_c3, zu H_c6, (fun _ => ⟨rfl, rfl⟩), zu H_c11, zu H_c14, (fun h => ⟨(zu H_c15 h).1, rfl, (zu H_c15 h).2.2.1, (zu H_c15 h).2.2.2.1, (zu H_c15 h).2.2.2.2⟩), (fun h => nomatch h)⟩
  ·intro h0 hd K hK
   have z : u8 = false := h0
   have z16_ : u16 = false := by
    cases hu : u16 with
    | false => rfl
    | true => exact nomatch z.symm.trans ((kF hu).2.2.2.2.2.2.2.2.1)
   have H_kB := hide kB
   have H_kZ := hide kZ
   have H_c2 := hide c2
   have H_c3 := hide c3
   have H_c6 := hide c6
   have H_c7 := hide c7
   have H_c11 := hide c11
   have H_c14 := hide c14
   have H_c15 := hide c15
   have H_kF := hide kF
   clear kB kZ c2 c3 c6 c7 c11 c14 c15 kF
   subst z16_
   subst z
   clear h0 hd
   rw [if_pos (by rfl)]
   go_simp
   exact zu hK _ _ ⟨u0, u1, u2, u3, u4, u5, u6, u7, true, u9, u10, u11, u12, u13, u14, u15, false, dm, rfl, rfl, zu H_kB, (fun h => nomatch h), zu H_c2, zu H_c3, zu H_c6, zu H_c7, zu H_c11, zu H_c14, (fun h => ⟨(zu H_c15 h).1, (zu H_c15 h).2.1, rfl, (zu H_c15 h).2.2.2.1, (zu H_c15 h).2.2.2.2⟩), (fun h => nomatch h)⟩
  ·intro h0 hd K hK
   have z : u9 = false := h0
   have z16_ : u16 = false := by
    cases hu : u16 with
    | false => rfl
    | true => exact nomatch z.symm.trans ((kF hu).2.2.2.2.2.2.2.2.2.1)
   have H_kB := hide kB
   have H_kZ := hide kZ
   have H_c2 := hide c2
   have H_c3 := hide c3
   have H_c6 := hide c6
   have H_c7 := hide c7
   have H_c11 := hide c11
   have H_c14 := hide c14
   have H_c15 := hide c15
   have H_kF := hide kF
   clear kB kZ c2 c3 c6 c7 c11 c14 c15 kF
   subst z16_
   subst z
   clear h0 hd
   rw [if_pos (by rfl)]
   go_simp
   exact zu hK _ _ ⟨u0, u1, u2, u3, u4, u5, u6, u7, u8, true, u10, u11, u12, u13, u14, u15, false, dm, rfl, rfl, zu H_kB, (fun h => nomatch h), zu H_c2, zu H_c3, zu H_c6, zu H_c7, (fun h => ⟨rfl, (zu H_c11 h).2⟩), zu H_c14, zu H_c15, (fun h => nomatch h)⟩
  ·intro h0 hd K hK
   have z : u10 = false := h0
   have z16_ : u16 = false := by
    cases hu : u16 with
    | false => rfl
    | true => exact nomatch z.symm.trans ((kF hu).2.2.2.2.2.2.2.2.2.2.1)
   have H_kB := hide kB
   have H_kZ := hide kZ
   have H_c2 := hide c2
   have H_c3 := hide c3
   have H_c6 := hide c6
   have H_c7 := hide c7
   have H_c11 := hide c11
   have H_c14 := hide c14
   have H_c15 := hide c15
   have H_kF := hide kF
   clear kB kZ c2 c3 c6 c7 c11 c14 c15 kF
   subst z16_
   subst z
   clear h0 hd
   rw [if_pos (by rfl)]
   go_simp
   exact zu hK _ _ ⟨u0, u1, u2, u3, u4, u5, u6, u7, u8, u9, true, u11, u12, u13, u14, u15, false, dm, rfl, rfl, zu H_kB, (fun h => nomatch h), zu H_c2, zu H_c3, zu H_c6, zu H_c7, (fun h => ⟨(zu H_c11 h).1, rfl⟩), zu H_c14, zu H_c15, (fun h => nomatch h)⟩
  ·intro h0 hd K hK
   have z : u11 = false := h0
   have z16_ : u16 = false := by
    cases hu : u16 with
    | false => rfl
    | true => exact nomatch z.symm.trans ((kF hu).2.2.2.2.2.2.2.2.2.2.2.1)
   have zd : u9 = true ∧ u10 = true := by
    simp [Region.binds] at hd
    simp [hd]
   have H_kB := hide kB
   have H_kZ := hide kZ
   have H_c2 := hide c2
   have H_c3 := hide c3
   have H_c6 := hide c6
   have H_c7 := hide c7
   have H_c11 := hide c11
   have H_c14 := hide c14
   have H_c15 := hide c15
   have H_kF := hide kF
   clear kB kZ c2 c3 c6 c7 c11 c14 c15 kF
   obtain ⟨rfl, rfl⟩ := zd
   subst z16_
   subst z
   clear h0 hd
   rw [if_pos (by rfl)]
   have wm := zu HW
   go_simp
   exact zu hK _ _ ⟨u0, u1, u2, u3, u4, u5, u6, u7, u8, true, true, true, u12, u13, u14, u15, false, dm, rfl, rfl, zu H_kB, (fun h => nomatch h), zu H_c2, zu H_c3, zu H_c6, zu H_c7, (fun _ => ⟨rfl, rfl⟩), zu H_c14, (fun h => ⟨(zu H_c15 h).1, (zu H_c15 h).2.1, (zu H_c15 h).2.2.1, rfl, (zu H_c15 h).2.2.2.2⟩), (fun h => nomatch h)⟩
  ·intro h0 hd K hK
   have z : u12 = false := h0
   have z16_ : u16 = false := by
    cases hu : u16 with
    | false => rfl
    | true => exact nomatch z.symm.trans ((kF hu).2.2.2.2.2.2.2.2.2.2.2.2.1)
   have H_kB := hide kB
   have H_kZ := hide kZ
   have H_c2 := hide c2
   have H_c3 := hide c3
   have H_c6 := hide c6
   have H_c7 := hide c7
   have H_c11 := hide c11
   have H_c14 := hide c14
   have H_c15 := hide c15
   have H_kF := hide kF
   clear kB kZ c2 c3 c6 c7 c11 c14 c15 kF
   subst z16_
   subst z
   clear h0 hd
   rw [if_pos (by rfl)]
   have c0 := keep1 (zu H_kB rfl) (zu H5c0)
   have c1 := keep1 (zu H_kB rfl) (zu H5c1)
   go_simp
   exact zu hK _ _ ⟨u0, u1, u2, u3, u4, u5, u6, u7, u8, u9, u10, u11, true, u13, u14, u15, false, dm, rfl, rfl, zu H_kB, (fun h => nomatch h), zu H_c2, zu H_c3, zu H_c6, zu H_c7, zu H_c11, (fun h => ⟨rfl, (zu H_c14 h).2⟩), zu H_c15, (fun h => nomatch h)⟩
  ·intro h0 hd K hK
   have z : u13 = false := h0
   have z16_ : u16 = false := by
    cases hu : u16 with
    | false => rfl
    | true => exact nomatch z.symm.trans ((kF hu).2.2.2.2.2.2.2.2.2.2.2.2.2.1)
   have H_kB := hide kB
   have H_kZ := hide kZ
   have H_c2 := hide c2
   have H_c3 := hide c3
   have H_c6 := hide c6
   have H_c7 := hide c7
   have H_c11 := hide c11
   have H_c14 := hide c14
   have H_c15 := hide c15
   have H_kF := hide kF
   clear kB kZ c2 c3 c6 c7 c11 c14 c15 kF
   subst z16_
   subst z
   clear h0 hd
   rw [if_pos (by rfl)]
   have c0 := keep1 (zu H_kB rfl) (zu H5c0)
   have c1 := keep1 (zu H_kB rfl) (zu H5c1)
   go_simp
   exact zu hK _ _ ⟨u0, u1, u2, u3, u4, u5, u6, u7, u8, u9, u10, u11, u12, true, u14, u15, false, dm, rfl, rfl, zu H_kB, (fun h => nomatch h), zu H_c2, zu H_c3, zu H_c6, zu H_c7, zu H_c11, (fun h => ⟨(zu H_c14 h).1, rfl⟩), zu H_c15, (fun h => nomatch h)⟩
  ·intro h0 hd K hK
   have z : u14 = false := h0
   have z16_ : u16 = false := by
    cases hu : u16 with
    | false => rfl
    | true => exact nomatch z.symm.trans ((kF hu).2.2.2.2.2.2.2.2.2.2.2.2.2.2.1)
   have zd : u12 = true ∧ u13 = true := by
    simp [Region.binds] at hd
    simp [hd]
   have H_kB := hide kB
   have H_kZ := hide kZ
   have H_c2 := hide c2
   have H_c3 := hide c3
   have H_c6 := hide c6
   have H_c7 := hide c7
   have H_c11 := hide c11
   have H_c14 := hide c14
   have H_c15 := hide c15
   have H_kF := hide kF
   clear kB kZ c2 c3 c6 c7 c11 c14 c15 kF
   obtain ⟨rfl, rfl⟩ := zd
   subst z16_
   subst z
   clear h0 hd
   rw [if_pos (by rfl)]
   go_simp
   refine (zu HD W (zu H_kB rfl)).mono ?_
   rintro e w8 ⟨rfl, hb8⟩
   exact zu hK _ _ ⟨u0, u1, u2, u3, u4, u5, u6, u7, u8, u9, u10, u11, true, true, true, u15, false, dm, rfl, rfl, (fun _ => bc (zu H_kB rfl) hb8), (fun h => nomatch h), zu H_c2, zu H_c3, zu H_c6, zu H_c7, zu H_c11, (fun _ => ⟨rfl, rfl⟩), (fun h => ⟨(zu H_c15 h).1, (zu H_c15 h).2.1, (zu H_c15 h).2.2.1, (zu H_c15 h).2.2.2.1, rfl⟩), (fun h => nomatch h)⟩
  ·intro h0 hd K hK
   have z : u15 = false := h0
   have z16_ : u16 = false := by
    cases hu : u16 with
    | false => rfl
    | true => exact nomatch z.symm.trans ((kF hu).2.2.2.2.2.2.2.2.2.2.2.2.2.2.2)
   have zd : u3 = true ∧ u7 = true ∧ u8 = true ∧ u11 = true ∧ u14 = true := by
    simp [Region.binds] at hd
    simp [hd]
   have H_kB := hide kB
   have H_kZ := hide kZ
   have H_c2 := hide c2
   have H_c3 := hide c3
   have H_c6 := hide c6
   have H_c7 := hide c7
   have H_c11 := hide c11
   have H_c14 := hide c14
   have H_c15 := hide c15
   have H_kF := hide kF
   clear kB kZ c2 c3 c6 c7 c11 c14 c15 kF
   obtain ⟨rfl, rfl, rfl, rfl, rfl⟩ := zd
   subst z16_
   subst z
   clear h0 hd
   rw [if_pos (by rfl)]
   go_simp
   exact zu hK _ _ ⟨u0, u1, u2, true, u4, u5, u6, true, true, u9, u10, true, u12, u13, true, true, false, dm, rfl, rfl, zu H_kB, (fun h => nomatch h), zu H_c2, zu H_c3, zu H_c6, zu H_c7, zu H_c11, zu H_c14, (fun _ => ⟨rfl, rfl, rfl, rfl, rfl⟩), (fun h => nomatch h)⟩
  ·intro h0 hd K hK
   have z : u16 = false := h0
   have zd : u15 = true ∧ u0 = true ∧ u1 = true ∧ u2 = true ∧ u3 = true ∧ u4 = true ∧ u5 = true ∧ u6 = true ∧ u7 = true ∧ u8 = true ∧ u9 = true ∧ u10 = true ∧ u11 = true ∧ u12 = true ∧ u13 = true ∧ u14 = true := by
    simp [Region.binds] at hd
    simp_all
   have H_kB := hide kB
   have H_kZ := hide kZ
   have H_c2 := hide c2
   have H_c3 := hide c3
   have H_c6 := hide c6
   have H_c7 := hide c7
   have H_c11 := hide c11
   have H_c14 := hide c14
   have H_c15 := hide c15
   have H_kF := hide kF
   clear kB kZ c2 c3 c6 c7 c11 c14 c15 kF
   obtain ⟨rfl, rfl, rfl, rfl, rfl, rfl, rfl, rfl, rfl, rfl, rfl, rfl, rfl, rfl, rfl, rfl⟩ := zd
   subst z
   clear h0 hd
   rw [if_pos (by rfl)]
   have hB := (zu H_kB rfl)
   have q0 := keep1 hB (zu H4 0 (by omega))
   have q1 := keep1 hB (zu H4 1 (by omega))
   have q2 := keep1 hB (zu H4 2 (by omega))
   have q3 := keep1 hB (zu H4 3 (by omega))
   have q4 := keep1 hB (zu H4 4 (by omega))
   have fz : ∀ o, W.frozen? ⟨b4, o, none⟩ = false := fun o => keepz hB hb4 (zu H4f o)
   have HBB := hide hB
   clear hB
   go_simp
   exact zu hK _ _ ⟨true, true, true, true, true, true, true, true, true, true, true, true, true, true, true, true, true, dm, rfl, rfl, (fun h => nomatch h), (fun _ => ⟨W, zu HBB, rfl⟩), (fun _ => rfl), (fun _ => ⟨rfl, rfl⟩), (fun _ => rfl), (fun _ => ⟨rfl, rfl⟩), (fun _ => ⟨rfl, rfl⟩), (fun _ => ⟨rfl, rfl⟩), (fun _ => ⟨rfl, rfl, rfl, rfl, rfl⟩), (fun _ => ⟨rfl, rfl, rfl, rfl, rfl, rfl, rfl, rfl, rfl, rfl, rfl, rfl, rfl, rfl, rfl, rfl⟩)⟩
 case hend =>
  rintro Lb A W ⟨u0, u1, u2, u3, u4, u5, u6, u7, u8, u9, u10, u11, u12, u13, u14, u15, u16, dm, rfl, rfl, kB, kZ, c2, c3, c6, c7, c11, c14, c15, kF⟩ hL
  have hl : u0 = true ∧ u1 = true ∧ u2 = true ∧ u3 = true ∧ u4 = true ∧ u5 = true ∧ u6 = true ∧ u7 = true ∧ u8 = true ∧ u9 = true ∧ u10 = true ∧ u11 = true ∧ u12 = true ∧ u13 = true ∧ u14 = true ∧ u15 = true ∧ u16 = true := by
   have h2 := congrArg Array.toList hL
   simpa [List.replicate] using h2
  obtain ⟨rfl, rfl, rfl, rfl, rfl, rfl, rfl, rfl, rfl, rfl, rfl, rfl, rfl, rfl, rfl, rfl, rfl⟩ := hl
  obtain ⟨W1, hA, rfl⟩ := kZ rfl
  exact zu HQ W1 hA
noncomputable def reg22 (id : Nat) : Go.Code := match Try.f22.body with | some c => (regOfZ id c).getD .skip | none => .skip
set_option maxHeartbeats 4000000 in
set_option maxRecDepth 100000 in
theorem fz3 {s1 s2 s7 s8 s9 s10 s11 s12 s13 s14 s15 s16 s17 s18 s19 s20 s21 s22 s23 s24 s25 s26 : Value} {b cap n b3 b4 b5 : Nat} {ja jb : Nat} {c1 c2 w1 w2 dd : Int} {V : World} {K_ : Act → World → Prop} (hb4 : b4 < V.heap.size)
  (H3c2 : Hid (V.cell? ⟨b3, 2, none⟩ = some (.int .i64 c1))) (H3c3 : Hid (V.cell? ⟨b3, 3, none⟩ = some (.int .i64 c2)))
  (H5c0 : Hid (V.cell? ⟨b5, 0, none⟩ = some (.int .i64 w1))) (H5c1 : Hid (V.cell? ⟨b5, 1, none⟩ = some (.int .i64 w2)))
  (H4 : Hid (∀ o, o < 5 → V.cell? ⟨b4, o, none⟩ = some (.int .i64 0))) (H4f : Hid (∀ o, V.frozen? ⟨b4, o, none⟩ = false))
  (HB : Hid (∀ X, Below V.heap.size V X → Calls Try.prog 53 #[.slice (some ⟨b, 0, none⟩) n cap, .agg #[.int .i64 (c1), .int .i64 (c2)]] X fun e w' => e = .returned (.int .i64 (jb : Int)) ∧ Below X.heap.size X w'))
  (HD : Hid (∀ X, Below V.heap.size V X → Calls Try.prog 54 #[.agg #[.int .i64 (w1), .int .i64 (w2)], .agg #[.int .i64 (w1), .int .i64 (w2)]] X fun e w' => e = .returned (.int .i64 (dd)) ∧ Below X.heap.size X w'))
  (hQ : ∀ (W1 : World), Below V.heap.size V W1 → K_ { tmps := #[.slice (some ⟨b, 0, none⟩) n cap, s1, s2, .pointer (some ⟨b3, 0, none⟩), .pointer (some ⟨b4, 0, none⟩), .pointer (some ⟨b5, 0, none⟩), .int .i64 (ja : Int), s7, s8, s9, s10, s11, s12, s13, s14, s15, .int .i64 (ja : Int), .slice (some ⟨b, 0, none⟩) n cap, .pointer (some ⟨b3, 2, none⟩), .agg #[.int .i64 (c1), .int .i64 (c2)], .int .i64 (jb : Int), .int .i64 (ja : Int), .agg #[.int .i64 (w1), .int .i64 (w2)], .agg #[.int .i64 (w1), .int .i64 (w2)], .int .i64 (dd), .int .i64 (max 1 dd), .agg #[.int .i64 (ja : Int), .int .i64 (jb : Int), .int .i64 (ja : Int), .int .i64 (0), .int .i64 (max 1 dd)]], defers := [] } (((((W1.setCell ⟨b4, 0, none⟩ (.int .i64 (ja : Int))).setCell ⟨b4, 1, none⟩ (.int .i64 (jb : Int))).setCell ⟨b4, 2, none⟩ (.int .i64 (ja : Int))).setCell ⟨b4, 3, none⟩ (.int .i64 (0))).setCell ⟨b4, 4, none⟩ (.int .i64 (max 1 dd)))) :
  Go.Code.wp Try.prog (reg22 3) (Only K_) { tmps := #[.slice (some ⟨b, 0, none⟩) n cap, s1, s2, .pointer (some ⟨b3, 0, none⟩), .pointer (some ⟨b4, 0, none⟩), .pointer (some ⟨b5, 0, none⟩), .int .i64 (ja : Int), s7, s8, s9, s10, s11, s12, s13, s14, s15, s16, s17, s18, s19, s20, s21, s22, s23, s24, s25, s26], defers := [] } V := by
 have HQ := hide hQ
 clear hQ
 conv => arg 2; whnf
 refine wp_region_inv (fun Lb A W => ∃ (u0 u1 u2 u3 u4 u5 u6 u7 u8 u9 u10 u11 : Bool) (dm : Nat), Lb = #[u0, u1, u2, u3, u4, u5, u6, u7, u8, u9, u10, u11] ∧ A = ({ tmps := #[.slice (some ⟨b, 0, none⟩) n cap, s1, s2, .pointer (some ⟨b3, 0, none⟩), .pointer (some ⟨b4, 0, none⟩), .pointer (some ⟨b5, 0, none⟩), .int .i64 (ja : Int), s7, s8, s9, s10, s11, s12, s13, s14, s15, (bif u0 then .int .i64 (ja : Int) else s16), (bif u1 then .slice (some ⟨b, 0, none⟩) n cap else s17), (bif u2 then .pointer (some ⟨b3, 2, none⟩) else s18), (bif u3 then .agg #[.int .i64 (c1), .int .i64 (c2)] else s19), (bif u4 then .int .i64 (jb : Int) else s20), (bif u5 then .int .i64 (ja : Int) else s21), (bif u6 then .agg #[.int .i64 (w1), .int .i64 (w2)] else s22), (bif u7 then .agg #[.int .i64 (w1), .int .i64 (w2)] else s23), (bif u8 then .int .i64 (dd) else s24), (bif u9 then .int .i64 (max 1 dd) else s25), (bif u10 then .agg #[.int .i64 (ja : Int), .int .i64 (jb : Int), .int .i64 (ja : Int), .int .i64 (0), .int .i64 (max 1 dd)] else s26)], defers := [] } : Act) ∧ (u11 = false → Below V.heap.size V W) ∧ (u11 = true → ∃ W1, Below V.heap.size V W1 ∧ W = ((((W1.setCell ⟨b4, 0, none⟩ (.int .i64 (ja : Int))).setCell ⟨b4, 1, none⟩ (.int .i64 (jb : Int))).setCell ⟨b4, 2, none⟩ (.int .i64 (ja : Int))).setCell ⟨b4, 3, none⟩ (.int .i64 (0))).setCell ⟨b4, 4, none⟩ (.int .i64 (max 1 dd))) ∧ (u3 = true → u2 = true) ∧ (u4 = true → u1 = true ∧ u3 = true) ∧ (u8 = true → u6 = true ∧ u7 = true) ∧ (u9 = true → u8 = true) ∧ (u10 = true → u0 = true ∧ u4 = true ∧ u5 = true ∧ u9 = true) ∧ (u11 = true → u0 = true ∧ u1 = true ∧ u2 = true ∧ u3 = true ∧ u4 = true ∧ u5 = true ∧ u6 = true ∧ u7 = true ∧ u8 = true ∧ u9 = true ∧ u10 = true)) (by kernel_rfl) (by kernel_rfl) ?h0 ?hstep ?hend
 case h0 =>
  exact ⟨false, false, false, false, false, false, false, false, false, false, false, false, 0, rfl, rfl, (fun _ => Below.drew (Below.refl _ _)), (fun h => nomatch h), (fun h => nomatch h), (fun h => nomatch h), (fun h => nomatch h), (fun h => nomatch h), (fun h => nomatch h), (fun h => nomatch h)⟩
 case hstep =>
  rintro Lb A W ⟨u0, u1, u2, u3, u4, u5, u6, u7, u8, u9, u10, u11, dm, rfl, rfl, kB, kZ, c3, c4, c8, c9, c10, kF⟩
  refine ⟨?_, ?_, ?_, ?_, ?_, ?_, ?_, ?_, ?_, ?_, ?_, ?_, trivial⟩
  ·intro h0 hd K hK
   have z : u0 = false := h0
   have z11_ : u11 = false := by
    cases hu : u11 with
    | false => rfl
    | true => exact nomatch z.symm.trans ((kF hu).1)
   have H_kB := hide kB
   have H_kZ := hide kZ
   have H_c3 := hide c3
   have H_c4 := hide c4
   have H_c8 := hide c8
   have H_c9 := hide c9
   have H_c10 := hide c10
   have H_kF := hide kF
   clear kB kZ c3 c4 c8 c9 c10 kF
   subst z11_
   subst z
   clear h0 hd
   rw [if_pos (by rfl)]
   go_simp
   exact zu hK _ _ ⟨true, u1, u2, u3, u4, u5, u6, u7, u8, u9, u10, false, dm, rfl, rfl, zu H_kB, (fun h => nomatch h), zu H_c3, zu H_c4, zu H_c8, zu H_c9, (fun h => ⟨rfl, (zu H_c10 h).2.1, (zu H_c10 h).2.2.1, (zu H_c10 h).2.2.2⟩), (fun h => nomatch h)⟩
  ·intro h0 hd K hK
   have z : u1 = false := h0
   have z11_ : u11 = false := by
    cases hu : u11 with
    | false => rfl
    | true => exact nomatch z.symm.trans ((kF hu).2.1)
   have H_kB := hide kB
   have H_kZ := hide kZ
   have H_c3 := hide c3
   have H_c4 := hide c4
   have H_c8 := hide c8
   have H_c9 := hide c9
   have H_c10 := hide c10
   have H_kF := hide kF
   clear kB kZ c3 c4 c8 c9 c10 kF
   subst z11_
   subst z
   clear h0 hd
   rw [if_pos (by rfl)]
   go_simp
   exact zu hK _ _ ⟨u0, true, u2, u3, u4, u5, u6, u7, u8, u9, u10, false, dm, rfl, rfl, zu H_kB, (fun h => nomatch h), zu H_c3, (fun h => ⟨rfl, (zu H_c4 h).2⟩), zu H_c8, zu H_c9, zu H_c10, (fun h => nomatch h)⟩
  ·intro h0 hd K hK
   have z : u2 = false := h0
   have z11_ : u11 = false := by
    cases hu : u11 with
    | false => rfl
    | true => exact nomatch z.symm.trans ((kF hu).2.2.1)
   have H_kB := hide kB
   have H_kZ := hide kZ
   have H_c3 := hide c3
   have H_c4 := hide c4
   have H_c8 := hide c8
   have H_c9 := hide c9
   have H_c10 := hide c10
   have H_kF := hide kF
   clear kB kZ c3 c4 c8 c9 c10 kF
   subst z11_
   subst z
   clear h0 hd
   rw [if_pos (by rfl)]
   go_simp
   exact zu hK _ _ ⟨u0, u1, true, u3, u4, u5, u6, u7, u8, u9, u10, false, dm, rfl, rfl, zu H_kB, (fun h => nomatch h), (fun h => rfl), zu H_c4, zu H_c8, zu H_c9, zu H_c10, (fun h => nomatch h)⟩
  ·intro h0 hd K hK
   have z : u3 = false := h0
   have z11_ : u11 = false := by
    cases hu : u11 with
    | false => rfl
    | true => exact nomatch z.symm.trans ((kF hu).2.2.2.1)
   have zd : u2 = true := by
    simp [Region.binds] at hd
    simp [hd]
   have H_kB := hide kB
   have H_kZ := hide kZ
   have H_c3 := hide c3
   have H_c4 := hide c4
   have H_c8 := hide c8
   have H_c9 := hide c9
   have H_c10 := hide c10
   have H_kF := hide kF
   clear kB kZ c3 c4 c8 c9 c10 kF
   obtain ⟨rfl⟩ := zd
   subst z11_
   subst z
   clear h0 hd
   rw [if_pos (by rfl)]
   have c0 := keep1 (zu H_kB rfl) (zu H3c2)
   have c1 := keep1 (zu H_kB rfl) (zu H3c3)
   go_simp
   exact zu hK _ _ ⟨u0, u1, true, true, u4, u5, u6, u7, u8, u9, u10, false, dm, rfl, rfl, zu H_kB, (fun h => nomatch h), (fun _ => rfl), (fun h => ⟨(zu H_c4 h).1, rfl⟩), zu H_c8, zu H_c9, zu H_c10, (fun h => nomatch h)⟩
  ·intro h0 hd K hK
   have z : u4 = false := h0
   have z11_ : u11 = false := by
    cases hu : u11 with
    | false => rfl
    | true => exact nomatch z.symm.trans ((kF hu).2.2.2.2.1)
   have zd : u1 = true ∧ u3 = true := by
    simp [Region.binds] at hd
    simp [hd]
   have H_kB := hide kB
   have H_kZ := hide kZ
   have H_c3 := hide c3
   have H_c4 := hide c4
   have H_c8 := hide c8
   have H_c9 := hide c9
   have H_c10 := hide c10
   have H_kF := hide kF
   clear kB kZ c3 c4 c8 c9 c10 kF
   obtain ⟨rfl, rfl⟩ := zd
   subst z11_
   subst z
   clear h0 hd
   rw [if_pos (by rfl)]
   go_simp
   refine (zu HB W (zu H_kB rfl)).mono ?_
   rintro e w8 ⟨rfl, hb8⟩
   exact zu hK _ _ ⟨u0, true, u2, true, true, u5, u6, u7, u8, u9, u10, false, dm, rfl, rfl, (fun _ => bc (zu H_kB rfl) hb8), (fun h => nomatch h), zu H_c3, (fun _ => ⟨rfl, rfl⟩), zu H_c8, zu H_c9, (fun h => ⟨(zu H_c10 h).1, rfl, (zu H_c10 h).2.2.1, (zu H_c10 h).2.2.2⟩), (fun h => nomatch h)⟩
  ·intro h0 hd K hK
   have z : u5 = false := h0
   have z11_ : u11 = false := by
    cases hu : u11 with
    | false => rfl
    | true => exact nomatch z.symm.trans ((kF hu).2.2.2.2.2.1)
   have H_kB := hide kB
   have H_kZ := hide kZ
   have H_c3 := hide c3
   have H_c4 := hide c4
   have H_c8 := hide c8
   have H_c9 := hide c9
   have H_c10 := hide c10
   have H_kF := hide kF
   clear kB kZ c3 c4 c8 c9 c10 kF
   subst z11_
   subst z
   clear h0 hd
   rw [if_pos (by rfl)]
   go_simp
   exact zu hK _ _ ⟨u0, u1, u2, u3, u4, true, u6, u7, u8, u9, u10, false, dm, rfl, rfl, zu H_kB, (fun h => nomatch h), zu H_c3, zu H_c4, zu H_c8, zu H_c9, (fun h => ⟨(zu H_c10 h).1, (zu H_c10 h).2.1, rfl, (zu H_c10 h).2.2.2⟩), (fun h => nomatch h)⟩
  ·intro h0 hd K hK
   have z : u6 = false := h0
   have z11_ : u11 = false := by
    cases hu : u11 with
    | false => rfl
    | true => exact nomatch z.symm.trans ((kF hu).2.2.2.2.2.2.1)
   have H_kB := hide kB
   have H_kZ := hide kZ
   have H_c3 := hide c3
   have H_c4 := hide c4
   have H_c8 := hide c8
   have H_c9 := hide c9
   have H_c10 := hide c10
   have H_kF := hide kF
   clear kB kZ c3 c4 c8 c9 c10 kF
   subst z11_
   subst z
   clear h0 hd
   rw [if_pos (by rfl)]
   have c0 := keep1 (zu H_kB rfl) (zu H5c0)
   have c1 := keep1 (zu H_kB rfl) (zu H5c1)
   go_simp
   exact zu hK _ _ ⟨u0, u1, u2, u3, u4, u5, true, u7, u8, u9, u10, false, dm, rfl, rfl, zu H_kB, (fun h => nomatch h), zu H_c3, zu H_c4, (fun h => ⟨rfl, (zu H_c8 h).2⟩), zu H_c9, zu H_c10, (fun h => nomatch h)⟩
  ·intro h0 hd K hK
   have z : u7 = false := h0
   have z11_ : u11 = false := by
    cases hu : u11 with
    | false => rfl
    | true => exact nomatch z.symm.trans ((kF hu).2.2.2.2.2.2.2.1)
   have H_kB := hide kB
   have H_kZ := hide kZ
   have H_c3 := hide c3
   have H_c4 := hide c4
   have H_c8 := hide c8
   have H_c9 := hide c9
   have H_c10 := hide c10
   have H_kF := hide kF
   clear kB kZ c3 c4 c8 c9 c10 kF
   subst z11_
   subst z
   clear h0 hd
   rw [if_pos (by rfl)]
   have c0 := keep1 (zu H_kB rfl) (zu H5c0)
   have c1 := keep1 (zu H_kB rfl) (zu H5c1)
   go_simp
   exact zu hK _ _ ⟨u0, u1, u2, u3, u4, u5, u6, true, u8, u9, u10, false, dm, rfl, rfl, zu H_kB, (fun h => nomatch h), zu H_c3, zu H_c4, (fun h => ⟨(zu H_c8 h).1, rfl⟩), zu H_c9, zu H_c10, (fun h => nomatch h)⟩
  ·intro h0 hd K hK
   have z : u8 = false := h0
   have z11_ : u11 = false := by
    cases hu : u11 with
    | false => rfl
    | true => exact nomatch z.symm.trans ((kF hu).2.2.2.2.2.2.2.2.1)
   have zd : u6 = true ∧ u7 = true := by
    simp [Region.binds] at hd
    simp [hd]
   have H_kB := hide kB
   have H_kZ := hide kZ
   have H_c3 := hide c3
   have H_c4 := hide c4
   have H_c8 := hide c8
   have H_c9 := hide c9
   have H_c10 := hide c10
   have H_kF := hide kF
   clear kB kZ c3 c4 c8 c9 c10 kF
   obtain ⟨rfl, rfl⟩ := zd
   subst z11_
   subst z
   clear h0 hd
   rw [if_pos (by rfl)]
   go_simp
   refine (zu HD W (zu H_kB rfl)).mono ?_
   rintro e w8 ⟨rfl, hb8⟩
   exact zu hK _ _ ⟨u0, u1, u2, u3, u4, u5, true, true, true, u9, u10, false, dm, rfl, rfl, (fun _ => bc (zu H_kB rfl) hb8), (fun h => nomatch h), zu H_c3, zu H_c4, (fun _ => ⟨rfl, rfl⟩), (fun h => rfl), zu H_c10, (fun h => nomatch h)⟩
  ·intro h0 hd K hK
   have z : u9 = false := h0
   have z11_ : u11 = false := by
    cases hu : u11 with
    | false => rfl
    | true => exact nomatch z.symm.trans ((kF hu).2.2.2.2.2.2.2.2.2.1)
   have zd : u8 = true := by
    simp [Region.binds] at hd
    simp [hd]
   have H_kB := hide kB
   have H_kZ := hide kZ
   have H_c3 := hide c3
   have H_c4 := hide c4
   have H_c8 := hide c8
   have H_c9 := hide c9
   have H_c10 := hide c10
   have H_kF := hide kF
   clear kB kZ c3 c4 c8 c9 c10 kF
   obtain ⟨rfl⟩ := zd
   subst z11_
   subst z
   clear h0 hd
   rw [if_pos (by rfl)]
   go_simp
   exact zu hK _ _ ⟨u0, u1, u2, u3, u4, u5, u6, u7, true, true, u10, false, dm, rfl, rfl, zu H_kB, (fun h => nomatch h), zu H_c3, zu H_c4, zu H_c8, (fun _ => rfl), (fun h => ⟨(zu H_c10 h).1, (zu H_c10 h).2.1, (zu H_c10 h).2.2.1, rfl⟩), (fun h => nomatch h)⟩
  ·intro h0 hd K hK
   have z : u10 = false := h0
   have z11_ : u11 = false := by
    cases hu : u11 with
    | false => rfl
    | true => exact nomatch z.symm.trans ((kF hu).2.2.2.2.2.2.2.2.2.2)
   have zd : u0 = true ∧ u4 = true ∧ u5 = true ∧ u9 = true := by
    simp [Region.binds] at hd
    simp [hd]
   have H_kB := hide kB
   have H_kZ := hide kZ
   have H_c3 := hide c3
   have H_c4 := hide c4
   have H_c8 := hide c8
   have H_c9 := hide c9
   have H_c10 := hide c10
   have H_kF := hide kF
   clear kB kZ c3 c4 c8 c9 c10 kF
   obtain ⟨rfl, rfl, rfl, rfl⟩ := zd
   subst z11_
   subst z
   clear h0 hd
   rw [if_pos (by rfl)]
   go_simp
   exact zu hK _ _ ⟨true, u1, u2, u3, true, true, u6, u7, u8, true, true, false, dm, rfl, rfl, zu H_kB, (fun h => nomatch h), zu H_c3, zu H_c4, zu H_c8, zu H_c9, (fun _ => ⟨rfl, rfl, rfl, rfl⟩), (fun h => nomatch h)⟩
  ·intro h0 hd K hK
   have z : u11 = false := h0
   have zd : u10 = true ∧ u0 = true ∧ u1 = true ∧ u2 = true ∧ u3 = true ∧ u4 = true ∧ u5 = true ∧ u6 = true ∧ u7 = true ∧ u8 = true ∧ u9 = true := by
    simp [Region.binds] at hd
    simp_all
   have H_kB := hide kB
   have H_kZ := hide kZ
   have H_c3 := hide c3
   have H_c4 := hide c4
   have H_c8 := hide c8
   have H_c9 := hide c9
   have H_c10 := hide c10
   have H_kF := hide kF
   clear kB kZ c3 c4 c8 c9 c10 kF
   obtain ⟨rfl, rfl, rfl, rfl, rfl, rfl, rfl, rfl, rfl, rfl, rfl⟩ := zd
   subst z
   clear h0 hd
   rw [if_pos (by rfl)]
   have hB := (zu H_kB rfl)
   have q0 := keep1 hB (zu H4 0 (by omega))
   have q1 := keep1 hB (zu H4 1 (by omega))
   have q2 := keep1 hB (zu H4 2 (by omega))
   have q3 := keep1 hB (zu H4 3 (by omega))
   have q4 := keep1 hB (zu H4 4 (by omega))
   have fz : ∀ o, W.frozen? ⟨b4, o, none⟩ = false := fun o => keepz hB hb4 (zu H4f o)
   have HBB := hide hB
   clear hB
   go_simp
   exact zu hK _ _ ⟨true, true, true, true, true, true, true, true, true, true, true, true, dm, rfl, rfl, (fun h => nomatch h), (fun _ => ⟨W, zu HBB, rfl⟩), (fun _ => rfl), (fun _ => ⟨rfl, rfl⟩), (fun _ => ⟨rfl, rfl⟩), (fun _ => rfl), (fun _ => ⟨rfl, rfl, rfl, rfl⟩), (fun _ => ⟨rfl, rfl, rfl, rfl, rfl, rfl, rfl, rfl, rfl, rfl, rfl⟩)⟩
 case hend =>
  rintro Lb A W ⟨u0, u1, u2, u3, u4, u5, u6, u7, u8, u9, u10, u11, dm, rfl, rfl, kB, kZ, c3, c4, c8, c9, c10, kF⟩ hL
  have hl : u0 = true ∧ u1 = true ∧ u2 = true ∧ u3 = true ∧ u4 = true ∧ u5 = true ∧ u6 = true ∧ u7 = true ∧ u8 = true ∧ u9 = true ∧ u10 = true ∧ u11 = true := by
   have h2 := congrArg Array.toList hL
   simpa [List.replicate] using h2
  obtain ⟨rfl, rfl, rfl, rfl, rfl, rfl, rfl, rfl, rfl, rfl, rfl, rfl⟩ := hl
  obtain ⟨W1, hA, rfl⟩ := kZ rfl
  exact zu HQ W1 hA
end Go.Proofs.Ytdcecfgmfmpeeaa
