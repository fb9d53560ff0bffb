/-
  A statement of the program's ZoneOf, walked alone: a strip without width is told.
-/
import Derived.Test.YtdcecfgmfmpeeaaOrder2q
import Derived.Test.YtdcecfgmfmpeeaaLeavesq
namespace Go.Proofs.Ytdcecfgmfmpeeaa
open Go.ChangeShapes Go.WideShapes Go.ChangeAt Go.RowKit
set_option linter.unusedVariables false
set_option linter.unusedSimpArgs false
noncomputable def reg7 (id : Nat) : Go.Code := match Try.f7.body with | some c => (regOfZ id c).getD .skip | none => .skip
set_option maxHeartbeats 4000000 in
set_option maxRecDepth 100000 in
theorem zp8 {s1 s3 s4 s6 s7 s8 s9 s10 s11 s12 s13 s14 s15 s16 s17 s18 s19 s20 s21 s22 s23 s24 s25 s26 s27 s28 s29 s30 s31 s32 s33 s34 s35 s36 s37 s38 s39 s40 s41 s42 s43 s44 s45 s46 s47 s48 s49 s50 s51 s52 s53 s54 s55 s56 s57 s58 s59 : Value} {b cap n gh m ch q b2 : Nat} {a1 a2 c1 c2 : Int} {z : Zo} {V : World} {K_ : Act → World → Prop} (hb2 : b2 < V.heap.size)
  (HA0 : Hid (V.cell? ⟨gh, 0, none⟩ = some (.int .i64 a1))) (HA1 : Hid (V.cell? ⟨gh, 1, none⟩ = some (.int .i64 a2))) (HC0 : Hid (V.cell? ⟨gh, q * 2, none⟩ = some (.int .i64 c1))) (HC1 : Hid (V.cell? ⟨gh, q * 2 + 1, none⟩ = some (.int .i64 c2)))
  (HWQ : Hid (IntKind.i64.wrap ((m : Int) - 1) = (q : Int))) (HQM : Hid ((q : Int) < (m : Int))) (HM1 : Hid ((0 : Int) < (m : Int)))
  (H2 : Hid (∀ o, o < 5 → V.cell? ⟨b2, o, none⟩ = some (.int .i64 0))) (H2f : Hid (∀ o, V.frozen? ⟨b2, o, none⟩ = false))
  (HF : Hid (∀ X, Below V.heap.size V X → Calls Try.prog 22 #[.slice (some ⟨b, 0, none⟩) n cap, .agg #[.int .i64 a1, .int .i64 a2, .int .i64 c1, .int .i64 c2]] X fun e w' => e = .returned (.agg #[.int .i64 z.A, .int .i64 z.B, .int .i64 z.C, .int .i64 z.N, .int .i64 z.D]) ∧ Below X.heap.size X w'))
  (hQ : ∀ (W1 : World), Below V.heap.size V W1 → K_ { tmps := #[.slice (some ⟨b, 0, none⟩) n cap, s1, .pointer (some ⟨b2, 0, none⟩), .int .i64 (0), s4, .slice (some ⟨gh, 0, none⟩) m ch, s6, s7, s8, s9, s10, s11, s12, s13, s14, s15, s16, s17, s18, s19, s20, s21, s22, s23, s24, s25, s26, s27, .slice (some ⟨b, 0, none⟩) n cap, .slice (some ⟨gh, 0, none⟩) m ch, .pointer (some ⟨gh, 0, none⟩), .agg #[.int .i64 (a1), .int .i64 (a2)], .slice (some ⟨gh, 0, none⟩) m ch, .slice (some ⟨gh, 0, none⟩) m ch, .int .i64 (m : Int), .int .i64 (q : Int), .pointer (some ⟨gh, q * 2, none⟩), .agg #[.int .i64 (c1), .int .i64 (c2)], .agg #[.int .i64 a1, .int .i64 a2, .int .i64 c1, .int .i64 c2], .agg #[.int .i64 z.A, .int .i64 z.B, .int .i64 z.C, .int .i64 z.N, .int .i64 z.D], s40, s41, s42, s43, s44, s45, s46, s47, s48, s49, s50, s51, s52, s53, s54, s55, s56, s57, s58, s59], defers := [] } (((((W1.setCell ⟨b2, 0, none⟩ (.int .i64 z.A)).setCell ⟨b2, 1, none⟩ (.int .i64 z.B)).setCell ⟨b2, 2, none⟩ (.int .i64 z.C)).setCell ⟨b2, 3, none⟩ (.int .i64 z.N)).setCell ⟨b2, 4, none⟩ (.int .i64 z.D))) :
  Go.Code.wp Try.prog (reg7 8) (Only K_) { tmps := #[.slice (some ⟨b, 0, none⟩) n cap, s1, .pointer (some ⟨b2, 0, none⟩), s3, s4, .slice (some ⟨gh, 0, none⟩) m ch, s6, s7, s8, s9, s10, s11, s12, s13, s14, s15, s16, s17, s18, s19, s20, s21, s22, s23, s24, s25, s26, s27, s28, s29, s30, s31, s32, s33, s34, s35, s36, s37, s38, s39, s40, s41, s42, s43, s44, s45, s46, s47, s48, s49, s50, s51, s52, s53, s54, s55, s56, s57, s58, s59], defers := [] } V := by
 have HQ := hide hQ
 clear hQ
 conv => arg 2; whnf
 refine wp_region_inv (fun Lb A W => ∃ (u0 u1 u2 u3 u4 u5 u6 u7 u8 u9 u10 u11 u12 u13 : Bool) (dm : Nat), Lb = #[u0, u1, u2, u3, u4, u5, u6, u7, u8, u9, u10, u11, u12, u13] ∧ A = ({ tmps := #[.slice (some ⟨b, 0, none⟩) n cap, s1, .pointer (some ⟨b2, 0, none⟩), (bif u13 then .int .i64 (0) else s3), s4, .slice (some ⟨gh, 0, none⟩) m ch, s6, s7, s8, s9, s10, s11, s12, s13, s14, s15, s16, s17, s18, s19, s20, s21, s22, s23, s24, s25, s26, s27, (bif u0 then .slice (some ⟨b, 0, none⟩) n cap else s28), (bif u1 then .slice (some ⟨gh, 0, none⟩) m ch else s29), (bif u2 then .pointer (some ⟨gh, 0, none⟩) else s30), (bif u3 then .agg #[.int .i64 (a1), .int .i64 (a2)] else s31), (bif u4 then .slice (some ⟨gh, 0, none⟩) m ch else s32), (bif u5 then .slice (some ⟨gh, 0, none⟩) m ch else s33), (bif u6 then .int .i64 (m : Int) else s34), (bif u7 then .int .i64 (q : Int) else s35), (bif u8 then .pointer (some ⟨gh, q * 2, none⟩) else s36), (bif u9 then .agg #[.int .i64 (c1), .int .i64 (c2)] else s37), (bif u10 then .agg #[.int .i64 a1, .int .i64 a2, .int .i64 c1, .int .i64 c2] else s38), (bif u11 then .agg #[.int .i64 z.A, .int .i64 z.B, .int .i64 z.C, .int .i64 z.N, .int .i64 z.D] else s39), s40, s41, s42, s43, s44, s45, s46, s47, s48, s49, s50, s51, s52, s53, s54, s55, s56, s57, s58, s59], defers := [] } : Act) ∧ (u12 = false → Below V.heap.size V W) ∧ (u12 = true → ∃ W1, Below V.heap.size V W1 ∧ W = (((((W1.setCell ⟨b2, 0, none⟩ (.int .i64 z.A)).setCell ⟨b2, 1, none⟩ (.int .i64 z.B)).setCell ⟨b2, 2, none⟩ (.int .i64 z.C)).setCell ⟨b2, 3, none⟩ (.int .i64 z.N)).setCell ⟨b2, 4, none⟩ (.int .i64 z.D))) ∧ (u2 = true → u1 = true) ∧ (u3 = true → u2 = true) ∧ (u6 = true → u5 = true) ∧ (u7 = true → u6 = true) ∧ (u8 = true → u4 = true ∧ u7 = true) ∧ (u9 = true → u8 = true) ∧ (u10 = true → u3 = true ∧ u9 = true) ∧ (u11 = true → u0 = true ∧ u10 = true) ∧ (u12 = true → u11 = true) ∧ (u13 = true → u0 = true ∧ u1 = true ∧ u2 = true ∧ u3 = true ∧ u4 = true ∧ u5 = true ∧ u6 = true ∧ u7 = true ∧ u8 = true ∧ u9 = true ∧ u10 = true ∧ u11 = true ∧ u12 = true)) (by kernel_rfl) (by kernel_rfl) ?h0 ?hstep ?hend
 case h0 =>
  exact ⟨false, false, false, false, false, false, false, false, false, false, false, false, false, false, 0, rfl, rfl, (fun _ => Below.drew (Below.refl _ _)), (fun h => nomatch h), (fun h => nomatch h), (fun h => nomatch h), (fun h => nomatch h), (fun h => nomatch h), (fun h => nomatch h), (fun h => nomatch h), (fun h => nomatch h), (fun h => nomatch h), (fun h => nomatch h), (fun h => nomatch h)⟩
 case hstep =>
  rintro Lb A W ⟨u0, u1, u2, u3, u4, u5, u6, u7, u8, u9, u10, u11, u12, u13, dm, rfl, rfl, kB, kZ, c2, c3, c6, c7, c8, c9, c10, c11, c12, kF⟩
  refine ⟨?_, ?_, ?_, ?_, ?_, ?_, ?_, ?_, ?_, ?_, ?_, ?_, ?_, ?_, trivial⟩
  ·intro h0 hd K hK
   have z : u0 = false := h0
   have z13_ : u13 = false := by
    cases hu : u13 with
    | false => rfl
    | true => exact nomatch z.symm.trans ((kF hu).1)
   have H_kB := hide kB
   have H_kZ := hide kZ
   have H_c2 := hide c2
   have H_c3 := hide c3
   have H_c6 := hide c6
   have H_c7 := hide c7
   have H_c8 := hide c8
   have H_c9 := hide c9
   have H_c10 := hide c10
   have H_c11 := hide c11
   have H_c12 := hide c12
   have H_kF := hide kF
   clear kB kZ c2 c3 c6 c7 c8 c9 c10 c11 c12 kF
   subst z13_
   subst z
   clear h0 hd
   rw [if_pos (by rfl)]
   go_simp
   exact zu hK _ _ ⟨true, u1, u2, u3, u4, u5, u6, u7, u8, u9, u10, u11, u12, false, dm, rfl, rfl, zu H_kB, zu H_kZ, zu H_c2, zu H_c3, zu H_c6, zu H_c7, zu H_c8, zu H_c9, zu H_c10, (fun h => ⟨rfl, (zu H_c11 h).2⟩), zu H_c12, (fun h => nomatch h)⟩
  ·intro h0 hd K hK
   have z : u1 = false := h0
   have z13_ : u13 = false := by
    cases hu : u13 with
    | false => rfl
    | true => exact nomatch z.symm.trans ((kF hu).2.1)
   have H_kB := hide kB
   have H_kZ := hide kZ
   have H_c2 := hide c2
   have H_c3 := hide c3
   have H_c6 := hide c6
   have H_c7 := hide c7
   have H_c8 := hide c8
   have H_c9 := hide c9
   have H_c10 := hide c10
   have H_c11 := hide c11
   have H_c12 := hide c12
   have H_kF := hide kF
   clear kB kZ c2 c3 c6 c7 c8 c9 c10 c11 c12 kF
   subst z13_
   subst z
   clear h0 hd
   rw [if_pos (by rfl)]
   go_simp
   exact zu hK _ _ ⟨u0, true, u2, u3, u4, u5, u6, u7, u8, u9, u10, u11, u12, false, dm, rfl, rfl, zu H_kB, zu H_kZ, (fun h => rfl), zu H_c3, zu H_c6, zu H_c7, zu H_c8, zu H_c9, zu H_c10, zu H_c11, zu H_c12, (fun h => nomatch h)⟩
  ·intro h0 hd K hK
   have z : u2 = false := h0
   have z13_ : u13 = false := by
    cases hu : u13 with
    | false => rfl
    | true => exact nomatch z.symm.trans ((kF hu).2.2.1)
   have zd : u1 = true := by
    simp [Region.binds] at hd
    simp [hd]
   have H_kB := hide kB
   have H_kZ := hide kZ
   have H_c2 := hide c2
   have H_c3 := hide c3
   have H_c6 := hide c6
   have H_c7 := hide c7
   have H_c8 := hide c8
   have H_c9 := hide c9
   have H_c10 := hide c10
   have H_c11 := hide c11
   have H_c12 := hide c12
   have H_kF := hide kF
   clear kB kZ c2 c3 c6 c7 c8 c9 c10 c11 c12 kF
   obtain ⟨rfl⟩ := zd
   subst z13_
   subst z
   clear h0 hd
   rw [if_pos (by rfl)]
   have q1 := zu HM1
   have q2 : 0 < m := by omega
   go_simp
   exact zu hK _ _ ⟨u0, true, true, u3, u4, u5, u6, u7, u8, u9, u10, u11, u12, false, dm, rfl, rfl, zu H_kB, zu H_kZ, (fun _ => rfl), (fun h => rfl), zu H_c6, zu H_c7, zu H_c8, zu H_c9, zu H_c10, zu H_c11, zu H_c12, (fun h => nomatch h)⟩
  ·intro h0 hd K hK
   have z : u3 = false := h0
   have z13_ : u13 = false := by
    cases hu : u13 with
    | false => rfl
    | true => exact nomatch z.symm.trans ((kF hu).2.2.2.1)
   have z12_ : u12 = false := by
    cases hu : u12 with
    | false => rfl
    | true => exact nomatch z.symm.trans ((c10 (c11 (c12 hu)).2).1)
   have zd : u2 = true := by
    simp [Region.binds] at hd
    simp [hd]
   have H_kB := hide kB
   have H_kZ := hide kZ
   have H_c2 := hide c2
   have H_c3 := hide c3
   have H_c6 := hide c6
   have H_c7 := hide c7
   have H_c8 := hide c8
   have H_c9 := hide c9
   have H_c10 := hide c10
   have H_c11 := hide c11
   have H_c12 := hide c12
   have H_kF := hide kF
   clear kB kZ c2 c3 c6 c7 c8 c9 c10 c11 c12 kF
   obtain ⟨rfl⟩ := zd
   subst z13_
   subst z12_
   subst z
   clear h0 hd
   rw [if_pos (by rfl)]
   have c0 := keep1 (zu H_kB rfl) (zu HA0)
   have c1 := keep1 (zu H_kB rfl) (zu HA1)
   go_simp
   exact zu hK _ _ ⟨u0, u1, true, true, u4, u5, u6, u7, u8, u9, u10, u11, false, false, dm, rfl, rfl, zu H_kB, (fun h => nomatch h), zu H_c2, (fun _ => rfl), zu H_c6, zu H_c7, zu H_c8, zu H_c9, (fun h => ⟨rfl, (zu H_c10 h).2⟩), zu H_c11, (fun h => nomatch h), (fun h => nomatch h)⟩
  ·intro h0 hd K hK
   have z : u4 = false := h0
   have z13_ : u13 = false := by
    cases hu : u13 with
    | false => rfl
    | true => exact nomatch z.symm.trans ((kF hu).2.2.2.2.1)
   have H_kB := hide kB
   have H_kZ := hide kZ
   have H_c2 := hide c2
   have H_c3 := hide c3
   have H_c6 := hide c6
   have H_c7 := hide c7
   have H_c8 := hide c8
   have H_c9 := hide c9
   have H_c10 := hide c10
   have H_c11 := hide c11
   have H_c12 := hide c12
   have H_kF := hide kF
   clear kB kZ c2 c3 c6 c7 c8 c9 c10 c11 c12 kF
   subst z13_
   subst z
   clear h0 hd
   rw [if_pos (by rfl)]
   go_simp
   exact zu hK _ _ ⟨u0, u1, u2, u3, true, u5, u6, u7, u8, u9, u10, u11, u12, false, dm, rfl, rfl, zu H_kB, zu H_kZ, zu H_c2, zu H_c3, zu H_c6, zu H_c7, (fun h => ⟨rfl, (zu H_c8 h).2⟩), zu H_c9, zu H_c10, zu H_c11, zu H_c12, (fun h => nomatch h)⟩
  ·intro h0 hd K hK
   have z : u5 = false := h0
   have z13_ : u13 = false := by
    cases hu : u13 with
    | false => rfl
    | true => exact nomatch z.symm.trans ((kF hu).2.2.2.2.2.1)
   have H_kB := hide kB
   have H_kZ := hide kZ
   have H_c2 := hide c2
   have H_c3 := hide c3
   have H_c6 := hide c6
   have H_c7 := hide c7
   have H_c8 := hide c8
   have H_c9 := hide c9
   have H_c10 := hide c10
   have H_c11 := hide c11
   have H_c12 := hide c12
   have H_kF := hide kF
   clear kB kZ c2 c3 c6 c7 c8 c9 c10 c11 c12 kF
   subst z13_
   subst z
   clear h0 hd
   rw [if_pos (by rfl)]
   go_simp
   exact zu hK _ _ ⟨u0, u1, u2, u3, u4, true, u6, u7, u8, u9, u10, u11, u12, false, dm, rfl, rfl, zu H_kB, zu H_kZ, zu H_c2, zu H_c3, (fun h => rfl), zu H_c7, zu H_c8, zu H_c9, zu H_c10, zu H_c11, zu H_c12, (fun h => nomatch h)⟩
  ·intro h0 hd K hK
   have z : u6 = false := h0
   have z13_ : u13 = false := by
    cases hu : u13 with
    | false => rfl
    | true => exact nomatch z.symm.trans ((kF hu).2.2.2.2.2.2.1)
   have zd : u5 = true := by
    simp [Region.binds] at hd
    simp [hd]
   have H_kB := hide kB
   have H_kZ := hide kZ
   have H_c2 := hide c2
   have H_c3 := hide c3
   have H_c6 := hide c6
   have H_c7 := hide c7
   have H_c8 := hide c8
   have H_c9 := hide c9
   have H_c10 := hide c10
   have H_c11 := hide c11
   have H_c12 := hide c12
   have H_kF := hide kF
   clear kB kZ c2 c3 c6 c7 c8 c9 c10 c11 c12 kF
   obtain ⟨rfl⟩ := zd
   subst z13_
   subst z
   clear h0 hd
   rw [if_pos (by rfl)]
   go_simp
   exact zu hK _ _ ⟨u0, u1, u2, u3, u4, true, true, u7, u8, u9, u10, u11, u12, false, dm, rfl, rfl, zu H_kB, zu H_kZ, zu H_c2, zu H_c3, (fun _ => rfl), (fun h => rfl), zu H_c8, zu H_c9, zu H_c10, zu H_c11, zu H_c12, (fun h => nomatch h)⟩
  ·intro h0 hd K hK
   have z : u7 = false := h0
   have z13_ : u13 = false := by
    cases hu : u13 with
    | false => rfl
    | true => exact nomatch z.symm.trans ((kF hu).2.2.2.2.2.2.2.1)
   have zd : u6 = true := by
    simp [Region.binds] at hd
    simp [hd]
   have H_kB := hide kB
   have H_kZ := hide kZ
   have H_c2 := hide c2
   have H_c3 := hide c3
   have H_c6 := hide c6
   have H_c7 := hide c7
   have H_c8 := hide c8
   have H_c9 := hide c9
   have H_c10 := hide c10
   have H_c11 := hide c11
   have H_c12 := hide c12
   have H_kF := hide kF
   clear kB kZ c2 c3 c6 c7 c8 c9 c10 c11 c12 kF
   obtain ⟨rfl⟩ := zd
   subst z13_
   subst z
   clear h0 hd
   rw [if_pos (by rfl)]
   have wq := zu HWQ
   go_simp
   exact zu hK _ _ ⟨u0, u1, u2, u3, u4, u5, true, true, u8, u9, u10, u11, u12, false, dm, rfl, rfl, zu H_kB, zu H_kZ, zu H_c2, zu H_c3, zu H_c6, (fun _ => rfl), (fun h => ⟨(zu H_c8 h).1, rfl⟩), zu H_c9, zu H_c10, zu H_c11, zu H_c12, (fun h => nomatch h)⟩
  ·intro h0 hd K hK
   have z : u8 = false := h0
   have z13_ : u13 = false := by
    cases hu : u13 with
    | false => rfl
    | true => exact nomatch z.symm.trans ((kF hu).2.2.2.2.2.2.2.2.1)
   have zd : u4 = true ∧ u7 = true := by
    simp [Region.binds] at hd
    simp [hd]
   have H_kB := hide kB
   have H_kZ := hide kZ
   have H_c2 := hide c2
   have H_c3 := hide c3
   have H_c6 := hide c6
   have H_c7 := hide c7
   have H_c8 := hide c8
   have H_c9 := hide c9
   have H_c10 := hide c10
   have H_c11 := hide c11
   have H_c12 := hide c12
   have H_kF := hide kF
   clear kB kZ c2 c3 c6 c7 c8 c9 c10 c11 c12 kF
   obtain ⟨rfl, rfl⟩ := zd
   subst z13_
   subst z
   clear h0 hd
   rw [if_pos (by rfl)]
   have q1 := zu HQM
   have q0 : (0 : Int) ≤ (q : Int) := Int.natCast_nonneg _
   have q2 : q < m := by omega
   go_simp
   exact zu hK _ _ ⟨u0, u1, u2, u3, true, u5, u6, true, true, u9, u10, u11, u12, false, dm, rfl, rfl, zu H_kB, zu H_kZ, zu H_c2, zu H_c3, zu H_c6, zu H_c7, (fun _ => ⟨rfl, rfl⟩), (fun h => rfl), zu H_c10, zu H_c11, zu H_c12, (fun h => nomatch h)⟩
  ·intro h0 hd K hK
   have z : u9 = false := h0
   have z13_ : u13 = false := by
    cases hu : u13 with
    | false => rfl
    | true => exact nomatch z.symm.trans ((kF hu).2.2.2.2.2.2.2.2.2.1)
   have z12_ : u12 = false := by
    cases hu : u12 with
    | false => rfl
    | true => exact nomatch z.symm.trans ((c10 (c11 (c12 hu)).2).2)
   have zd : u8 = true := by
    simp [Region.binds] at hd
    simp [hd]
   have H_kB := hide kB
   have H_kZ := hide kZ
   have H_c2 := hide c2
   have H_c3 := hide c3
   have H_c6 := hide c6
   have H_c7 := hide c7
   have H_c8 := hide c8
   have H_c9 := hide c9
   have H_c10 := hide c10
   have H_c11 := hide c11
   have H_c12 := hide c12
   have H_kF := hide kF
   clear kB kZ c2 c3 c6 c7 c8 c9 c10 c11 c12 kF
   obtain ⟨rfl⟩ := zd
   subst z13_
   subst z12_
   subst z
   clear h0 hd
   rw [if_pos (by rfl)]
   have c0 := keep1 (zu H_kB rfl) (zu HC0)
   have c1 := keep1 (zu H_kB rfl) (zu HC1)
   go_simp
   exact zu hK _ _ ⟨u0, u1, u2, u3, u4, u5, u6, u7, true, true, u10, u11, false, false, dm, rfl, rfl, zu H_kB, (fun h => nomatch h), zu H_c2, zu H_c3, zu H_c6, zu H_c7, zu H_c8, (fun _ => rfl), (fun h => ⟨(zu H_c10 h).1, rfl⟩), zu H_c11, (fun h => nomatch h), (fun h => nomatch h)⟩
  ·intro h0 hd K hK
   have z : u10 = false := h0
   have z13_ : u13 = false := by
    cases hu : u13 with
    | false => rfl
    | true => exact nomatch z.symm.trans ((kF hu).2.2.2.2.2.2.2.2.2.2.1)
   have zd : u3 = true ∧ u9 = true := by
    simp [Region.binds] at hd
    simp [hd]
   have H_kB := hide kB
   have H_kZ := hide kZ
   have H_c2 := hide c2
   have H_c3 := hide c3
   have H_c6 := hide c6
   have H_c7 := hide c7
   have H_c8 := hide c8
   have H_c9 := hide c9
   have H_c10 := hide c10
   have H_c11 := hide c11
   have H_c12 := hide c12
   have H_kF := hide kF
   clear kB kZ c2 c3 c6 c7 c8 c9 c10 c11 c12 kF
   obtain ⟨rfl, rfl⟩ := zd
   subst z13_
   subst z
   clear h0 hd
   rw [if_pos (by rfl)]
   go_simp
   exact zu hK _ _ ⟨u0, u1, u2, true, u4, u5, u6, u7, u8, true, true, u11, u12, false, dm, rfl, rfl, zu H_kB, zu H_kZ, zu H_c2, zu H_c3, zu H_c6, zu H_c7, zu H_c8, zu H_c9, (fun _ => ⟨rfl, rfl⟩), (fun h => ⟨(zu H_c11 h).1, rfl⟩), zu H_c12, (fun h => nomatch h)⟩
  ·intro h0 hd K hK
   have z : u11 = false := h0
   have z13_ : u13 = false := by
    cases hu : u13 with
    | false => rfl
    | true => exact nomatch z.symm.trans ((kF hu).2.2.2.2.2.2.2.2.2.2.2.1)
   have z12_ : u12 = false := by
    cases hu : u12 with
    | false => rfl
    | true => exact nomatch z.symm.trans ((c12 hu))
   have zd : u0 = true ∧ u10 = true := by
    simp [Region.binds] at hd
    simp [hd]
   have H_kB := hide kB
   have H_kZ := hide kZ
   have H_c2 := hide c2
   have H_c3 := hide c3
   have H_c6 := hide c6
   have H_c7 := hide c7
   have H_c8 := hide c8
   have H_c9 := hide c9
   have H_c10 := hide c10
   have H_c11 := hide c11
   have H_c12 := hide c12
   have H_kF := hide kF
   clear kB kZ c2 c3 c6 c7 c8 c9 c10 c11 c12 kF
   obtain ⟨rfl, rfl⟩ := zd
   subst z13_
   subst z12_
   subst z
   clear h0 hd
   rw [if_pos (by rfl)]
   go_simp
   refine (zu HF W (zu H_kB rfl)).mono ?_
   rintro e w8 ⟨rfl, hb8⟩
   exact zu hK _ _ ⟨true, u1, u2, u3, u4, u5, u6, u7, u8, u9, true, true, false, false, dm, rfl, rfl, (fun _ => bc (zu H_kB rfl) hb8), (fun h => nomatch h), zu H_c2, zu H_c3, zu H_c6, zu H_c7, zu H_c8, zu H_c9, zu H_c10, (fun _ => ⟨rfl, rfl⟩), (fun h => nomatch h), (fun h => nomatch h)⟩
  ·intro h0 hd K hK
   have z : u12 = false := h0
   have z13_ : u13 = false := by
    cases hu : u13 with
    | false => rfl
    | true => exact nomatch z.symm.trans ((kF hu).2.2.2.2.2.2.2.2.2.2.2.2)
   have zd : u11 = true := by
    simp [Region.binds] at hd
    simp_all
   have H_kB := hide kB
   have H_kZ := hide kZ
   have H_c2 := hide c2
   have H_c3 := hide c3
   have H_c6 := hide c6
   have H_c7 := hide c7
   have H_c8 := hide c8
   have H_c9 := hide c9
   have H_c10 := hide c10
   have H_c11 := hide c11
   have H_c12 := hide c12
   have H_kF := hide kF
   clear kB kZ c2 c3 c6 c7 c8 c9 c10 c11 c12 kF
   obtain ⟨rfl⟩ := zd
   subst z13_
   subst z
   clear h0 hd
   rw [if_pos (by rfl)]
   have hB := (zu H_kB rfl)
   have q0 := keep1 hB (zu H2 0 (by omega))
   have q1 := keep1 hB (zu H2 1 (by omega))
   have q2 := keep1 hB (zu H2 2 (by omega))
   have q3 := keep1 hB (zu H2 3 (by omega))
   have q4 := keep1 hB (zu H2 4 (by omega))
   have fz : ∀ o, W.frozen? ⟨b2, o, none⟩ = false := fun o => keepz hB hb2 (zu H2f o)
   have HBB := hide hB
   clear hB
   go_simp
   exact zu hK _ _ ⟨u0, u1, u2, u3, u4, u5, u6, u7, u8, u9, u10, true, true, false, dm, rfl, rfl, (fun h => nomatch h), (fun _ => ⟨W, zu HBB, rfl⟩), zu H_c2, zu H_c3, zu H_c6, zu H_c7, zu H_c8, zu H_c9, zu H_c10, zu H_c11, (fun _ => rfl), (fun h => nomatch h)⟩
  ·intro h0 hd K hK
   have z : u13 = false := h0
   have zd : u0 = true ∧ u1 = true ∧ u2 = true ∧ u3 = true ∧ u4 = true ∧ u5 = true ∧ u6 = true ∧ u7 = true ∧ u8 = true ∧ u9 = true ∧ u10 = true ∧ u11 = true ∧ u12 = true := by
    simp [Region.binds] at hd
    simp_all
   have H_kB := hide kB
   have H_kZ := hide kZ
   have H_c2 := hide c2
   have H_c3 := hide c3
   have H_c6 := hide c6
   have H_c7 := hide c7
   have H_c8 := hide c8
   have H_c9 := hide c9
   have H_c10 := hide c10
   have H_c11 := hide c11
   have H_c12 := hide c12
   have H_kF := hide kF
   clear kB kZ c2 c3 c6 c7 c8 c9 c10 c11 c12 kF
   obtain ⟨rfl, rfl, rfl, rfl, rfl, rfl, rfl, rfl, rfl, rfl, rfl, rfl, rfl⟩ := zd
   subst z
   clear h0 hd
   rw [if_pos (by rfl)]
   go_simp
   exact zu hK _ _ ⟨true, true, true, true, true, true, true, true, true, true, true, true, true, true, dm, rfl, rfl, zu H_kB, zu H_kZ, (fun _ => rfl), (fun _ => rfl), (fun _ => rfl), (fun _ => rfl), (fun _ => ⟨rfl, rfl⟩), (fun _ => rfl), (fun _ => ⟨rfl, rfl⟩), (fun _ => ⟨rfl, rfl⟩), (fun _ => rfl), (fun _ => ⟨rfl, rfl, rfl, rfl, rfl, rfl, rfl, rfl, rfl, rfl, rfl, rfl, rfl⟩)⟩
 case hend =>
  rintro Lb A W ⟨u0, u1, u2, u3, u4, u5, u6, u7, u8, u9, u10, u11, u12, u13, dm, rfl, rfl, kB, kZ, c2, c3, c6, c7, c8, c9, c10, c11, c12, kF⟩ hL
  have hl : u0 = true ∧ u1 = true ∧ u2 = true ∧ u3 = true ∧ u4 = true ∧ u5 = true ∧ u6 = true ∧ u7 = true ∧ u8 = true ∧ u9 = true ∧ u10 = true ∧ u11 = true ∧ u12 = true ∧ u13 = true := by
   have h2 := congrArg Array.toList hL
   simpa [List.replicate] using h2
  obtain ⟨rfl, rfl, rfl, rfl, rfl, rfl, rfl, rfl, rfl, rfl, rfl, rfl, rfl, rfl⟩ := hl
  obtain ⟨W1, hA, rfl⟩ := kZ rfl
  exact zu HQ W1 hA
end Go.Proofs.Ytdcecfgmfmpeeaa
