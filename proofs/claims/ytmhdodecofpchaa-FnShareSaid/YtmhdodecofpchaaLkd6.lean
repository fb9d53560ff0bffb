/-
  The statement that draws one link, walked alone.
-/
import Derived.Test.YtmhdodecofpchaaAtD
import Derived.Test.YtmhdodecofpchaaInv
import Derived.Test.YtmhdodecofpchaaLkBase
namespace Go.Proofs.Ytmhdodecofpchaa
open Go.ChangeShapes Go.WideShapes Go.ChangeAt Go.RowKit
set_option linter.unusedVariables false
set_option linter.unusedSimpArgs false

noncomputable def reg30 (id : Nat) : Go.Code := match Try.f31.body with | some c => (regOf id c).getD .skip | none => .skip

set_option maxHeartbeats 4000000 in
set_option maxRecDepth 100000 in
theorem lkd6 {s1 s2 s5 s6 s7 s8 s9 s10 s11 s12 s13 s14 s15 s16 s17 s18 s19 s20 s21 s22 s23 s24 s25 s26 s27 s28 s29 s30 s31 s32 s33 s34 s35 s36 s37 s38 s39 s40 s41 s42 s43 s44 s45 s46 s47 s48 s49 s50 s51 s52 s53 s54 s55 s56 s57 s58 s59 : Value} {B g N L kc : Nat} {ku : Option Addr} {s : ByteArray} {k : Int} {V : World} {K_ : Act → World → Prop} (hk : k ≤ 900000) (hL : L < 8) (hNg : N ≠ g) (hgV : g < V.heap.size)
    (k0 : V.cell? ⟨N, L, none⟩ = some (.string s))
    (H2 : Hid (So B g k V))
    (hQ : ∀ (y26 y27 y28 y29 y30 y31 y32 y33 y34 y35 y36 y37 y38 y39 y40 y41 : Value) (r1 r2 r3 r4 : Int) (T : Nat) (W' : World), (0 ≤ r1 ∧ r1 < 2) → (0 ≤ r2 ∧ r2 < 200) → (0 ≤ r3 ∧ r3 < 8) → (0 ≤ r4 ∧ r4 < 8) → (So B g (k + 12) W' ∧ Mv g V W' ∧ vblk W' T 29 (lkc ⟨s, 2 * r1 - 1, r2, r3, r4⟩) ∧ V.heap.size ≤ T) → K_ { tmps := #[.pointer (some ⟨g, 0, none⟩), s1, s2, .slice (some ⟨N, 0, none⟩) 8 8, .slice ku L kc, s5, .pointer (some ⟨T, 0, none⟩), s7, s8, s9, s10, s11, s12, s13, s14, s15, s16, s17, s18, s19, s20, s21, s22, s23, s24, s25, y26, y27, y28, y29, y30, y31, y32, y33, y34, y35, y36, y37, y38, y39, y40, y41, s42, s43, s44, s45, s46, s47, s48, s49, s50, s51, s52, s53, s54, s55, s56, s57, s58, s59], defers := [] } W') :
    Go.Code.wp Try.prog (reg30 6) (Only K_) { tmps := #[.pointer (some ⟨g, 0, none⟩), s1, s2, .slice (some ⟨N, 0, none⟩) 8 8, .slice ku L kc, s5, s6, s7, s8, s9, s10, s11, s12, s13, s14, s15, s16, s17, s18, s19, s20, s21, s22, s23, s24, s25, s26, s27, s28, s29, s30, s31, s32, s33, s34, s35, s36, s37, s38, s39, s40, s41, s42, s43, s44, s45, s46, s47, s48, s49, s50, s51, s52, s53, s54, s55, s56, s57, s58, s59], defers := [] } V := by
  have HQ := hide hQ
  clear hQ
  conv => arg 2; whnf
  refine wp_region_inv (fun Lb A W => ∃ (u0 u1 u2 u3 u4 u5 u6 u7 u8 u9 u10 u11 u12 u13 u14 u15 u16 u17 : Bool) (r1 : Int) (r2 : Int) (r3 : Int) (r4 : Int) (T : Nat), Lb = #[u0, u1, u2, u3, u4, u5, u6, u7, u8, u9, u10, u11, u12, u13, u14, u15, u16, u17] ∧ A = ({ tmps := #[.pointer (some ⟨g, 0, none⟩), s1, s2, .slice (some ⟨N, 0, none⟩) 8 8, .slice ku L kc, s5, (bif u16 then .pointer (some ⟨T, 0, none⟩) else s6), s7, s8, s9, s10, s11, s12, s13, s14, s15, s16, s17, s18, s19, s20, s21, s22, s23, s24, s25, (bif u0 then .slice (some ⟨N, 0, none⟩) 8 8 else s26), (bif u1 then .slice ku L kc else s27), (bif u2 then .int .i64 ((L : Int)) else s28), (bif u3 then .pointer (some ⟨N, L, none⟩) else s29), (bif u4 then .string s else s30), (bif u5 then .pointer (some ⟨g, 0, none⟩) else s31), (bif u6 then .int .i64 (r1) else s32), (bif u7 then .int .i64 (2 * r1) else s33), (bif u8 then .int .i64 (2 * r1 - 1) else s34), (bif u9 then .pointer (some ⟨g, 0, none⟩) else s35), (bif u10 then .int .i64 (r2) else s36), (bif u11 then .pointer (some ⟨g, 0, none⟩) else s37), (bif u12 then .int .i64 (r3) else s38), (bif u13 then .pointer (some ⟨g, 0, none⟩) else s39), (bif u14 then .int .i64 (r4) else s40), (bif u15 then .agg #[.string s, .int .i64 (2 * r1 - 1), .int .i64 r2, .int .i64 r3, .int .i64 r4] else s41), s42, s43, s44, s45, s46, s47, s48, s49, s50, s51, s52, s53, s54, s55, s56, s57, s58, s59], defers := [] } : Act) ∧ (u17 = false → So B g (k + (bif u6 then 3 else 0) + (bif u10 then 3 else 0) + (bif u12 then 3 else 0) + (bif u14 then 3 else 0)) W ∧ Mv g V W) ∧ (u6 = true → 0 ≤ r1 ∧ r1 < 2) ∧ (u10 = true → 0 ≤ r2 ∧ r2 < 200) ∧ (u12 = true → 0 ≤ r3 ∧ r3 < 8) ∧ (u14 = true → 0 ≤ r4 ∧ r4 < 8) ∧ (u16 = true → u17 = false → vblk W T 29 (lkc lk0) ∧ V.heap.size ≤ T) ∧ (u17 = true → So B g (k + 12) W ∧ Mv g V W ∧ vblk W T 29 (lkc ⟨s, 2 * r1 - 1, r2, r3, r4⟩) ∧ V.heap.size ≤ T) ∧ (u2 = true → u1 = true) ∧ (u3 = true → u0 = true ∧ u2 = true) ∧ (u4 = true → u3 = true) ∧ (u6 = true → u5 = true) ∧ (u7 = true → u6 = true) ∧ (u8 = true → u7 = true) ∧ (u10 = true → u9 = true ∧ u6 = true) ∧ (u12 = true → u11 = true ∧ u10 = true) ∧ (u14 = true → u13 = true ∧ u12 = true) ∧ (u15 = true → u4 = true ∧ u8 = true ∧ u10 = true ∧ u12 = true ∧ u14 = true) ∧ (u17 = true → u0 = true ∧ u1 = true ∧ u2 = true ∧ u3 = true ∧ u4 = true ∧ u5 = true ∧ u6 = true ∧ u7 = true ∧ u8 = true ∧ u9 = true ∧ u10 = true ∧ u11 = true ∧ u12 = true ∧ u13 = true ∧ u14 = true ∧ u15 = true ∧ u16 = true)) (by kernel_rfl) (by kernel_rfl) ?h0 ?hstep ?hend
  case h0 =>
    exact ⟨false, false, false, false, false, false, false, false, false, false, false, false, false, false, false, false, false, false, 0, 0, 0, 0, 0, rfl, rfl, (fun _ => by have h1 := (unhide H2).drew; have h2 := (Mv.refl g V).drew; simpa using And.intro h1 h2), (fun h => nomatch h), (fun h => nomatch h), (fun h => nomatch h), (fun h => nomatch h), (fun h => nomatch h), (fun h => nomatch h), (fun h => nomatch h), (fun h => nomatch h), (fun h => nomatch h), (fun h => nomatch h), (fun h => nomatch h), (fun h => nomatch h), (fun h => nomatch h), (fun h => nomatch h), (fun h => nomatch h), (fun h => nomatch h), (fun h => nomatch h)⟩
  case hstep =>
    rintro Lb A W ⟨u0, u1, u2, u3, u4, u5, u6, u7, u8, u9, u10, u11, u12, u13, u14, u15, u16, u17, r1, r2, r3, r4, T, rfl, rfl, kS, b6, b10, b12, b14, qT, kZ, c2, c3, c4, c6, c7, c8, c10, c12, c14, c15, kF⟩
    refine ⟨?_, ?_, ?_, ?_, ?_, ?_, ?_, ?_, ?_, ?_, ?_, ?_, ?_, ?_, ?_, ?_, ?_, ?_, trivial⟩
    · intro h0 hd K hK
      have z : u0 = false := h0
      have z17_ : u17 = false := by
        cases hu : u17 with
        | false => rfl
        | true => exact nomatch z.symm.trans ((kF hu).1)
      have H_kS := hide kS
      have H_b6 := hide b6
      have H_b10 := hide b10
      have H_b12 := hide b12
      have H_b14 := hide b14
      have H_qT := hide qT
      have H_kZ := hide kZ
      have H_c2 := hide c2
      have H_c3 := hide c3
      have H_c4 := hide c4
      have H_c6 := hide c6
      have H_c7 := hide c7
      have H_c8 := hide c8
      have H_c10 := hide c10
      have H_c12 := hide c12
      have H_c14 := hide c14
      have H_c15 := hide c15
      have H_kF := hide kF
      clear kS b6 b10 b12 b14 qT kZ c2 c3 c4 c6 c7 c8 c10 c12 c14 c15 kF
      subst z17_
      subst z
      clear h0 hd
      rw [if_pos (by rfl)]
      go_simp
      exact unhide hK _ _ ⟨true, u1, u2, u3, u4, u5, u6, u7, u8, u9, u10, u11, u12, u13, u14, u15, u16, false, r1, r2, r3, r4, T, rfl, rfl, unhide H_kS, unhide H_b6, unhide H_b10, unhide H_b12, unhide H_b14, unhide H_qT, (fun h => nomatch h), unhide H_c2, (fun h => ⟨rfl, (unhide H_c3 h).2⟩), unhide H_c4, unhide H_c6, unhide H_c7, unhide H_c8, unhide H_c10, unhide H_c12, unhide H_c14, unhide H_c15, (fun h => nomatch h)⟩
    · intro h0 hd K hK
      have z : u1 = false := h0
      have z17_ : u17 = false := by
        cases hu : u17 with
        | false => rfl
        | true => exact nomatch z.symm.trans ((kF hu).2.1)
      have H_kS := hide kS
      have H_b6 := hide b6
      have H_b10 := hide b10
      have H_b12 := hide b12
      have H_b14 := hide b14
      have H_qT := hide qT
      have H_kZ := hide kZ
      have H_c2 := hide c2
      have H_c3 := hide c3
      have H_c4 := hide c4
      have H_c6 := hide c6
      have H_c7 := hide c7
      have H_c8 := hide c8
      have H_c10 := hide c10
      have H_c12 := hide c12
      have H_c14 := hide c14
      have H_c15 := hide c15
      have H_kF := hide kF
      clear kS b6 b10 b12 b14 qT kZ c2 c3 c4 c6 c7 c8 c10 c12 c14 c15 kF
      subst z17_
      subst z
      clear h0 hd
      rw [if_pos (by rfl)]
      go_simp
      exact unhide hK _ _ ⟨u0, true, u2, u3, u4, u5, u6, u7, u8, u9, u10, u11, u12, u13, u14, u15, u16, false, r1, r2, r3, r4, T, rfl, rfl, unhide H_kS, unhide H_b6, unhide H_b10, unhide H_b12, unhide H_b14, unhide H_qT, (fun h => nomatch h), (fun h => rfl), unhide H_c3, unhide H_c4, unhide H_c6, unhide H_c7, unhide H_c8, unhide H_c10, unhide H_c12, unhide H_c14, unhide H_c15, (fun h => nomatch h)⟩
    · intro h0 hd K hK
      have z : u2 = false := h0
      have z17_ : u17 = false := by
        cases hu : u17 with
        | false => rfl
        | true => exact nomatch z.symm.trans ((kF hu).2.2.1)
      have zd : u1 = true := by
        simp [Region.binds] at hd
        simp [hd]
      have H_kS := hide kS
      have H_b6 := hide b6
      have H_b10 := hide b10
      have H_b12 := hide b12
      have H_b14 := hide b14
      have H_qT := hide qT
      have H_kZ := hide kZ
      have H_c2 := hide c2
      have H_c3 := hide c3
      have H_c4 := hide c4
      have H_c6 := hide c6
      have H_c7 := hide c7
      have H_c8 := hide c8
      have H_c10 := hide c10
      have H_c12 := hide c12
      have H_c14 := hide c14
      have H_c15 := hide c15
      have H_kF := hide kF
      clear kS b6 b10 b12 b14 qT kZ c2 c3 c4 c6 c7 c8 c10 c12 c14 c15 kF
      obtain ⟨rfl⟩ := zd
      subst z17_
      subst z
      clear h0 hd
      rw [if_pos (by rfl)]
      go_simp
      exact unhide hK _ _ ⟨u0, true, true, u3, u4, u5, u6, u7, u8, u9, u10, u11, u12, u13, u14, u15, u16, false, r1, r2, r3, r4, T, rfl, rfl, unhide H_kS, unhide H_b6, unhide H_b10, unhide H_b12, unhide H_b14, unhide H_qT, (fun h => nomatch h), (fun _ => rfl), (fun h => ⟨(unhide H_c3 h).1, rfl⟩), unhide H_c4, unhide H_c6, unhide H_c7, unhide H_c8, unhide H_c10, unhide H_c12, unhide H_c14, unhide H_c15, (fun h => nomatch h)⟩
    · intro h0 hd K hK
      have z : u3 = false := h0
      have z17_ : u17 = false := by
        cases hu : u17 with
        | false => rfl
        | true => exact nomatch z.symm.trans ((kF hu).2.2.2.1)
      have zd : u0 = true ∧ u2 = true := by
        simp [Region.binds] at hd
        simp [hd]
      have H_kS := hide kS
      have H_b6 := hide b6
      have H_b10 := hide b10
      have H_b12 := hide b12
      have H_b14 := hide b14
      have H_qT := hide qT
      have H_kZ := hide kZ
      have H_c2 := hide c2
      have H_c3 := hide c3
      have H_c4 := hide c4
      have H_c6 := hide c6
      have H_c7 := hide c7
      have H_c8 := hide c8
      have H_c10 := hide c10
      have H_c12 := hide c12
      have H_c14 := hide c14
      have H_c15 := hide c15
      have H_kF := hide kF
      clear kS b6 b10 b12 b14 qT kZ c2 c3 c4 c6 c7 c8 c10 c12 c14 c15 kF
      obtain ⟨rfl, rfl⟩ := zd
      subst z17_
      subst z
      clear h0 hd
      rw [if_pos (by rfl)]
      have o4 : (L : Int) < 8 := by omega
      have o5 : (0 : Int) ≤ (L : Int) := by omega
      go_simp
      exact unhide hK _ _ ⟨true, u1, true, true, u4, u5, u6, u7, u8, u9, u10, u11, u12, u13, u14, u15, u16, false, r1, r2, r3, r4, T, rfl, rfl, unhide H_kS, unhide H_b6, unhide H_b10, unhide H_b12, unhide H_b14, unhide H_qT, (fun h => nomatch h), unhide H_c2, (fun _ => ⟨rfl, rfl⟩), (fun h => rfl), unhide H_c6, unhide H_c7, unhide H_c8, unhide H_c10, unhide H_c12, unhide H_c14, unhide H_c15, (fun h => nomatch h)⟩
    · intro h0 hd K hK
      have z : u4 = false := h0
      have z17_ : u17 = false := by
        cases hu : u17 with
        | false => rfl
        | true => exact nomatch z.symm.trans ((kF hu).2.2.2.2.1)
      have zd : u3 = true := by
        simp [Region.binds] at hd
        simp [hd]
      have H_kS := hide kS
      have H_b6 := hide b6
      have H_b10 := hide b10
      have H_b12 := hide b12
      have H_b14 := hide b14
      have H_qT := hide qT
      have H_kZ := hide kZ
      have H_c2 := hide c2
      have H_c3 := hide c3
      have H_c4 := hide c4
      have H_c6 := hide c6
      have H_c7 := hide c7
      have H_c8 := hide c8
      have H_c10 := hide c10
      have H_c12 := hide c12
      have H_c14 := hide c14
      have H_c15 := hide c15
      have H_kF := hide kF
      clear kS b6 b10 b12 b14 qT kZ c2 c3 c4 c6 c7 c8 c10 c12 c14 c15 kF
      obtain ⟨rfl⟩ := zd
      subst z17_
      subst z
      clear h0 hd
      rw [if_pos (by rfl)]
      have cc := (unhide H_kS rfl).2.cell hNg k0
      go_simp
      exact unhide hK _ _ ⟨u0, u1, u2, true, true, u5, u6, u7, u8, u9, u10, u11, u12, u13, u14, u15, u16, false, r1, r2, r3, r4, T, rfl, rfl, unhide H_kS, unhide H_b6, unhide H_b10, unhide H_b12, unhide H_b14, unhide H_qT, (fun h => nomatch h), unhide H_c2, unhide H_c3, (fun _ => rfl), unhide H_c6, unhide H_c7, unhide H_c8, unhide H_c10, unhide H_c12, unhide H_c14, (fun h => ⟨rfl, (unhide H_c15 h).2.1, (unhide H_c15 h).2.2.1, (unhide H_c15 h).2.2.2.1, (unhide H_c15 h).2.2.2.2⟩), (fun h => nomatch h)⟩
    · intro h0 hd K hK
      have z : u5 = false := h0
      have z17_ : u17 = false := by
        cases hu : u17 with
        | false => rfl
        | true => exact nomatch z.symm.trans ((kF hu).2.2.2.2.2.1)
      have H_kS := hide kS
      have H_b6 := hide b6
      have H_b10 := hide b10
      have H_b12 := hide b12
      have H_b14 := hide b14
      have H_qT := hide qT
      have H_kZ := hide kZ
      have H_c2 := hide c2
      have H_c3 := hide c3
      have H_c4 := hide c4
      have H_c6 := hide c6
      have H_c7 := hide c7
      have H_c8 := hide c8
      have H_c10 := hide c10
      have H_c12 := hide c12
      have H_c14 := hide c14
      have H_c15 := hide c15
      have H_kF := hide kF
      clear kS b6 b10 b12 b14 qT kZ c2 c3 c4 c6 c7 c8 c10 c12 c14 c15 kF
      subst z17_
      subst z
      clear h0 hd
      rw [if_pos (by rfl)]
      go_simp
      exact unhide hK _ _ ⟨u0, u1, u2, u3, u4, true, u6, u7, u8, u9, u10, u11, u12, u13, u14, u15, u16, false, r1, r2, r3, r4, T, rfl, rfl, unhide H_kS, unhide H_b6, unhide H_b10, unhide H_b12, unhide H_b14, unhide H_qT, (fun h => nomatch h), unhide H_c2, unhide H_c3, unhide H_c4, (fun h => rfl), unhide H_c7, unhide H_c8, unhide H_c10, unhide H_c12, unhide H_c14, unhide H_c15, (fun h => nomatch h)⟩
    · intro h0 hd K hK
      have z : u6 = false := h0
      have z17_ : u17 = false := by
        cases hu : u17 with
        | false => rfl
        | true => exact nomatch z.symm.trans ((kF hu).2.2.2.2.2.2.1)
      have z7_ : u7 = false := by
        cases hu : u7 with
        | false => rfl
        | true => exact nomatch z.symm.trans ((c7 hu))
      have z8_ : u8 = false := by
        cases hu : u8 with
        | false => rfl
        | true => exact nomatch z.symm.trans ((c7 (c8 hu)))
      have z10_ : u10 = false := by
        cases hu : u10 with
        | false => rfl
        | true => exact nomatch z.symm.trans ((c10 hu).2)
      have z12_ : u12 = false := by
        cases hu : u12 with
        | false => rfl
        | true => exact nomatch z.symm.trans ((c10 (c12 hu).2).2)
      have z14_ : u14 = false := by
        cases hu : u14 with
        | false => rfl
        | true => exact nomatch z.symm.trans ((c10 (c12 (c14 hu).2).2).2)
      have z15_ : u15 = false := by
        cases hu : u15 with
        | false => rfl
        | true => exact nomatch z.symm.trans ((c7 (c8 (c15 hu).2.1)))
      have zd : u5 = true := by
        simp [Region.binds] at hd
        simp [hd]
      have H_kS := hide kS
      have H_b6 := hide b6
      have H_b10 := hide b10
      have H_b12 := hide b12
      have H_b14 := hide b14
      have H_qT := hide qT
      have H_kZ := hide kZ
      have H_c2 := hide c2
      have H_c3 := hide c3
      have H_c4 := hide c4
      have H_c6 := hide c6
      have H_c7 := hide c7
      have H_c8 := hide c8
      have H_c10 := hide c10
      have H_c12 := hide c12
      have H_c14 := hide c14
      have H_c15 := hide c15
      have H_kF := hide kF
      clear kS b6 b10 b12 b14 qT kZ c2 c3 c4 c6 c7 c8 c10 c12 c14 c15 kF
      obtain ⟨rfl⟩ := zd
      subst z17_
      subst z7_
      subst z8_
      subst z10_
      subst z12_
      subst z14_
      subst z15_
      subst z
      clear h0 hd
      rw [if_pos (by rfl)]
      have HSS : So B g k W ∧ Mv g V W := by have := unhide H_kS rfl; simpa [] using this
      go_simp
      refine (next_any (k := k) 2 HSS.1 (by omega) (by omega) (by omega)).mono ?_
      rintro e w8 ⟨r, rfl, hr1, hr2, hs, mv⟩
      exact unhide hK _ _ ⟨u0, u1, u2, u3, u4, true, true, false, false, u9, false, u11, false, u13, false, false, u16, false, r, r2, r3, r4, T, rfl, rfl, (fun _ => ⟨by simp []; exact hs.up (by omega), HSS.2.trans mv⟩), (fun _ => ⟨hr1, hr2⟩), (fun h => nomatch h), (fun h => nomatch h), (fun h => nomatch h), (fun h h2 => ⟨(mv.block _ (unhide H_qT h rfl).1.lt (by have := (unhide H_qT h rfl).2; omega)).trans (unhide H_qT h rfl).1, (unhide H_qT h rfl).2⟩), (fun h => nomatch h), unhide H_c2, unhide H_c3, unhide H_c4, (fun _ => rfl), (fun h => nomatch h), (fun h => nomatch h), (fun h => nomatch h), (fun h => nomatch h), (fun h => nomatch h), (fun h => nomatch h), (fun h => nomatch h)⟩
    · intro h0 hd K hK
      have z : u7 = false := h0
      have z17_ : u17 = false := by
        cases hu : u17 with
        | false => rfl
        | true => exact nomatch z.symm.trans ((kF hu).2.2.2.2.2.2.2.1)
      have zd : u6 = true := by
        simp [Region.binds] at hd
        simp [hd]
      have H_kS := hide kS
      have H_b6 := hide b6
      have H_b10 := hide b10
      have H_b12 := hide b12
      have H_b14 := hide b14
      have H_qT := hide qT
      have H_kZ := hide kZ
      have H_c2 := hide c2
      have H_c3 := hide c3
      have H_c4 := hide c4
      have H_c6 := hide c6
      have H_c7 := hide c7
      have H_c8 := hide c8
      have H_c10 := hide c10
      have H_c12 := hide c12
      have H_c14 := hide c14
      have H_c15 := hide c15
      have H_kF := hide kF
      clear kS b6 b10 b12 b14 qT kZ c2 c3 c4 c6 c7 c8 c10 c12 c14 c15 kF
      obtain ⟨rfl⟩ := zd
      subst z17_
      subst z
      clear h0 hd
      rw [if_pos (by rfl)]
      have hb := unhide H_b6 rfl
      obtain ⟨hb0, hb1⟩ := hb
      have wq : IntKind.i64.wrap (2 * r1) = 2 * r1 := wrap_i (by omega) (by omega)
      go_simp
      exact unhide hK _ _ ⟨u0, u1, u2, u3, u4, u5, true, true, u8, u9, u10, u11, u12, u13, u14, u15, u16, false, r1, r2, r3, r4, T, rfl, rfl, unhide H_kS, unhide H_b6, unhide H_b10, unhide H_b12, unhide H_b14, unhide H_qT, (fun h => nomatch h), unhide H_c2, unhide H_c3, unhide H_c4, unhide H_c6, (fun _ => rfl), (fun h => rfl), (fun h => ⟨(unhide H_c10 h).1, rfl⟩), unhide H_c12, unhide H_c14, unhide H_c15, (fun h => nomatch h)⟩
    · intro h0 hd K hK
      have z : u8 = false := h0
      have z17_ : u17 = false := by
        cases hu : u17 with
        | false => rfl
        | true => exact nomatch z.symm.trans ((kF hu).2.2.2.2.2.2.2.2.1)
      have zd : u7 = true := by
        simp [Region.binds] at hd
        simp [hd]
      have H_kS := hide kS
      have H_b6 := hide b6
      have H_b10 := hide b10
      have H_b12 := hide b12
      have H_b14 := hide b14
      have H_qT := hide qT
      have H_kZ := hide kZ
      have H_c2 := hide c2
      have H_c3 := hide c3
      have H_c4 := hide c4
      have H_c6 := hide c6
      have H_c7 := hide c7
      have H_c8 := hide c8
      have H_c10 := hide c10
      have H_c12 := hide c12
      have H_c14 := hide c14
      have H_c15 := hide c15
      have H_kF := hide kF
      clear kS b6 b10 b12 b14 qT kZ c2 c3 c4 c6 c7 c8 c10 c12 c14 c15 kF
      obtain ⟨rfl⟩ := zd
      subst z17_
      subst z
      clear h0 hd
      rw [if_pos (by rfl)]
      have hb := unhide H_b6 (unhide H_c7 rfl)
      obtain ⟨hb0, hb1⟩ := hb
      have wq : IntKind.i64.wrap (2 * r1 - 1) = 2 * r1 - 1 := wrap_i (by omega) (by omega)
      go_simp
      exact unhide hK _ _ ⟨u0, u1, u2, u3, u4, u5, u6, true, true, u9, u10, u11, u12, u13, u14, u15, u16, false, r1, r2, r3, r4, T, rfl, rfl, unhide H_kS, unhide H_b6, unhide H_b10, unhide H_b12, unhide H_b14, unhide H_qT, (fun h => nomatch h), unhide H_c2, unhide H_c3, unhide H_c4, unhide H_c6, unhide H_c7, (fun _ => rfl), unhide H_c10, unhide H_c12, unhide H_c14, (fun h => ⟨(unhide H_c15 h).1, rfl, (unhide H_c15 h).2.2.1, (unhide H_c15 h).2.2.2.1, (unhide H_c15 h).2.2.2.2⟩), (fun h => nomatch h)⟩
    · intro h0 hd K hK
      have z : u9 = false := h0
      have z17_ : u17 = false := by
        cases hu : u17 with
        | false => rfl
        | true => exact nomatch z.symm.trans ((kF hu).2.2.2.2.2.2.2.2.2.1)
      have H_kS := hide kS
      have H_b6 := hide b6
      have H_b10 := hide b10
      have H_b12 := hide b12
      have H_b14 := hide b14
      have H_qT := hide qT
      have H_kZ := hide kZ
      have H_c2 := hide c2
      have H_c3 := hide c3
      have H_c4 := hide c4
      have H_c6 := hide c6
      have H_c7 := hide c7
      have H_c8 := hide c8
      have H_c10 := hide c10
      have H_c12 := hide c12
      have H_c14 := hide c14
      have H_c15 := hide c15
      have H_kF := hide kF
      clear kS b6 b10 b12 b14 qT kZ c2 c3 c4 c6 c7 c8 c10 c12 c14 c15 kF
      subst z17_
      subst z
      clear h0 hd
      rw [if_pos (by rfl)]
      go_simp
      exact unhide hK _ _ ⟨u0, u1, u2, u3, u4, u5, u6, u7, u8, true, u10, u11, u12, u13, u14, u15, u16, false, r1, r2, r3, r4, T, rfl, rfl, unhide H_kS, unhide H_b6, unhide H_b10, unhide H_b12, unhide H_b14, unhide H_qT, (fun h => nomatch h), unhide H_c2, unhide H_c3, unhide H_c4, unhide H_c6, unhide H_c7, unhide H_c8, (fun h => ⟨rfl, (unhide H_c10 h).2⟩), unhide H_c12, unhide H_c14, unhide H_c15, (fun h => nomatch h)⟩
    · intro h0 hd K hK
      have z : u10 = false := h0
      have z17_ : u17 = false := by
        cases hu : u17 with
        | false => rfl
        | true => exact nomatch z.symm.trans ((kF hu).2.2.2.2.2.2.2.2.2.2.1)
      have z12_ : u12 = false := by
        cases hu : u12 with
        | false => rfl
        | true => exact nomatch z.symm.trans ((c12 hu).2)
      have z14_ : u14 = false := by
        cases hu : u14 with
        | false => rfl
        | true => exact nomatch z.symm.trans ((c12 (c14 hu).2).2)
      have z15_ : u15 = false := by
        cases hu : u15 with
        | false => rfl
        | true => exact nomatch z.symm.trans ((c15 hu).2.2.1)
      have zd : u9 = true ∧ u6 = true := by
        simp [Region.binds] at hd
        simp [hd]
      have H_kS := hide kS
      have H_b6 := hide b6
      have H_b10 := hide b10
      have H_b12 := hide b12
      have H_b14 := hide b14
      have H_qT := hide qT
      have H_kZ := hide kZ
      have H_c2 := hide c2
      have H_c3 := hide c3
      have H_c4 := hide c4
      have H_c6 := hide c6
      have H_c7 := hide c7
      have H_c8 := hide c8
      have H_c10 := hide c10
      have H_c12 := hide c12
      have H_c14 := hide c14
      have H_c15 := hide c15
      have H_kF := hide kF
      clear kS b6 b10 b12 b14 qT kZ c2 c3 c4 c6 c7 c8 c10 c12 c14 c15 kF
      obtain ⟨rfl, rfl⟩ := zd
      subst z17_
      subst z12_
      subst z14_
      subst z15_
      subst z
      clear h0 hd
      rw [if_pos (by rfl)]
      have HSS : So B g (k + 3) W ∧ Mv g V W := by have := unhide H_kS rfl; simpa [] using this
      go_simp
      refine (next_any (k := (k + 3)) 200 HSS.1 (by omega) (by omega) (by omega)).mono ?_
      rintro e w8 ⟨r, rfl, hr1, hr2, hs, mv⟩
      exact unhide hK _ _ ⟨u0, u1, u2, u3, u4, u5, true, u7, u8, true, true, u11, false, u13, false, false, u16, false, r1, r, r3, r4, T, rfl, rfl, (fun _ => ⟨by simp []; exact hs.up (by omega), HSS.2.trans mv⟩), unhide H_b6, (fun _ => ⟨hr1, hr2⟩), (fun h => nomatch h), (fun h => nomatch h), (fun h h2 => ⟨(mv.block _ (unhide H_qT h rfl).1.lt (by have := (unhide H_qT h rfl).2; omega)).trans (unhide H_qT h rfl).1, (unhide H_qT h rfl).2⟩), (fun h => nomatch h), unhide H_c2, unhide H_c3, unhide H_c4, unhide H_c6, (fun h => rfl), unhide H_c8, (fun _ => ⟨rfl, rfl⟩), (fun h => nomatch h), (fun h => nomatch h), (fun h => nomatch h), (fun h => nomatch h)⟩
    · intro h0 hd K hK
      have z : u11 = false := h0
      have z17_ : u17 = false := by
        cases hu : u17 with
        | false => rfl
        | true => exact nomatch z.symm.trans ((kF hu).2.2.2.2.2.2.2.2.2.2.2.1)
      have H_kS := hide kS
      have H_b6 := hide b6
      have H_b10 := hide b10
      have H_b12 := hide b12
      have H_b14 := hide b14
      have H_qT := hide qT
      have H_kZ := hide kZ
      have H_c2 := hide c2
      have H_c3 := hide c3
      have H_c4 := hide c4
      have H_c6 := hide c6
      have H_c7 := hide c7
      have H_c8 := hide c8
      have H_c10 := hide c10
      have H_c12 := hide c12
      have H_c14 := hide c14
      have H_c15 := hide c15
      have H_kF := hide kF
      clear kS b6 b10 b12 b14 qT kZ c2 c3 c4 c6 c7 c8 c10 c12 c14 c15 kF
      subst z17_
      subst z
      clear h0 hd
      rw [if_pos (by rfl)]
      go_simp
      exact unhide hK _ _ ⟨u0, u1, u2, u3, u4, u5, u6, u7, u8, u9, u10, true, u12, u13, u14, u15, u16, false, r1, r2, r3, r4, T, rfl, rfl, unhide H_kS, unhide H_b6, unhide H_b10, unhide H_b12, unhide H_b14, unhide H_qT, (fun h => nomatch h), unhide H_c2, unhide H_c3, unhide H_c4, unhide H_c6, unhide H_c7, unhide H_c8, unhide H_c10, (fun h => ⟨rfl, (unhide H_c12 h).2⟩), unhide H_c14, unhide H_c15, (fun h => nomatch h)⟩
    · intro h0 hd K hK
      have z : u12 = false := h0
      have z17_ : u17 = false := by
        cases hu : u17 with
        | false => rfl
        | true => exact nomatch z.symm.trans ((kF hu).2.2.2.2.2.2.2.2.2.2.2.2.1)
      have z14_ : u14 = false := by
        cases hu : u14 with
        | false => rfl
        | true => exact nomatch z.symm.trans ((c14 hu).2)
      have z15_ : u15 = false := by
        cases hu : u15 with
        | false => rfl
        | true => exact nomatch z.symm.trans ((c15 hu).2.2.2.1)
      have zd : u11 = true ∧ u10 = true := by
        simp [Region.binds] at hd
        simp [hd]
      have H_kS := hide kS
      have H_b6 := hide b6
      have H_b10 := hide b10
      have H_b12 := hide b12
      have H_b14 := hide b14
      have H_qT := hide qT
      have H_kZ := hide kZ
      have H_c2 := hide c2
      have H_c3 := hide c3
      have H_c4 := hide c4
      have H_c6 := hide c6
      have H_c7 := hide c7
      have H_c8 := hide c8
      have H_c10 := hide c10
      have H_c12 := hide c12
      have H_c14 := hide c14
      have H_c15 := hide c15
      have H_kF := hide kF
      clear kS b6 b10 b12 b14 qT kZ c2 c3 c4 c6 c7 c8 c10 c12 c14 c15 kF
      obtain ⟨rfl, rfl⟩ := zd
      subst z17_
      subst z14_
      subst z15_
      subst z
      clear h0 hd
      rw [if_pos (by rfl)]
      have z6 : u6 = true := (unhide H_c10 rfl).2
      have HSS : So B g (k + 3 + 3) W ∧ Mv g V W := by have := unhide H_kS rfl; simpa [z6] using this
      have Z6 := hide z6
      clear z6
      go_simp
      refine (next_any (k := (k + 3 + 3)) 8 HSS.1 (by omega) (by omega) (by omega)).mono ?_
      rintro e w8 ⟨r, rfl, hr1, hr2, hs, mv⟩
      exact unhide hK _ _ ⟨u0, u1, u2, u3, u4, u5, u6, u7, u8, u9, true, true, true, u13, false, false, u16, false, r1, r2, r, r4, T, rfl, rfl, (fun _ => ⟨by simp [unhide Z6]; exact hs.up (by omega), HSS.2.trans mv⟩), unhide H_b6, unhide H_b10, (fun _ => ⟨hr1, hr2⟩), (fun h => nomatch h), (fun h h2 => ⟨(mv.block _ (unhide H_qT h rfl).1.lt (by have := (unhide H_qT h rfl).2; omega)).trans (unhide H_qT h rfl).1, (unhide H_qT h rfl).2⟩), (fun h => nomatch h), unhide H_c2, unhide H_c3, unhide H_c4, unhide H_c6, unhide H_c7, unhide H_c8, unhide H_c10, (fun _ => ⟨rfl, rfl⟩), (fun h => nomatch h), (fun h => nomatch h), (fun h => nomatch h)⟩
    · intro h0 hd K hK
      have z : u13 = false := h0
      have z17_ : u17 = false := by
        cases hu : u17 with
        | false => rfl
        | true => exact nomatch z.symm.trans ((kF hu).2.2.2.2.2.2.2.2.2.2.2.2.2.1)
      have H_kS := hide kS
      have H_b6 := hide b6
      have H_b10 := hide b10
      have H_b12 := hide b12
      have H_b14 := hide b14
      have H_qT := hide qT
      have H_kZ := hide kZ
      have H_c2 := hide c2
      have H_c3 := hide c3
      have H_c4 := hide c4
      have H_c6 := hide c6
      have H_c7 := hide c7
      have H_c8 := hide c8
      have H_c10 := hide c10
      have H_c12 := hide c12
      have H_c14 := hide c14
      have H_c15 := hide c15
      have H_kF := hide kF
      clear kS b6 b10 b12 b14 qT kZ c2 c3 c4 c6 c7 c8 c10 c12 c14 c15 kF
      subst z17_
      subst z
      clear h0 hd
      rw [if_pos (by rfl)]
      go_simp
      exact unhide hK _ _ ⟨u0, u1, u2, u3, u4, u5, u6, u7, u8, u9, u10, u11, u12, true, u14, u15, u16, false, r1, r2, r3, r4, T, rfl, rfl, unhide H_kS, unhide H_b6, unhide H_b10, unhide H_b12, unhide H_b14, unhide H_qT, (fun h => nomatch h), unhide H_c2, unhide H_c3, unhide H_c4, unhide H_c6, unhide H_c7, unhide H_c8, unhide H_c10, unhide H_c12, (fun h => ⟨rfl, (unhide H_c14 h).2⟩), unhide H_c15, (fun h => nomatch h)⟩
    · intro h0 hd K hK
      have z : u14 = false := h0
      have z17_ : u17 = false := by
        cases hu : u17 with
        | false => rfl
        | true => exact nomatch z.symm.trans ((kF hu).2.2.2.2.2.2.2.2.2.2.2.2.2.2.1)
      have z15_ : u15 = false := by
        cases hu : u15 with
        | false => rfl
        | true => exact nomatch z.symm.trans ((c15 hu).2.2.2.2)
      have zd : u13 = true ∧ u12 = true := by
        simp [Region.binds] at hd
        simp [hd]
      have H_kS := hide kS
      have H_b6 := hide b6
      have H_b10 := hide b10
      have H_b12 := hide b12
      have H_b14 := hide b14
      have H_qT := hide qT
      have H_kZ := hide kZ
      have H_c2 := hide c2
      have H_c3 := hide c3
      have H_c4 := hide c4
      have H_c6 := hide c6
      have H_c7 := hide c7
      have H_c8 := hide c8
      have H_c10 := hide c10
      have H_c12 := hide c12
      have H_c14 := hide c14
      have H_c15 := hide c15
      have H_kF := hide kF
      clear kS b6 b10 b12 b14 qT kZ c2 c3 c4 c6 c7 c8 c10 c12 c14 c15 kF
      obtain ⟨rfl, rfl⟩ := zd
      subst z17_
      subst z15_
      subst z
      clear h0 hd
      rw [if_pos (by rfl)]
      have z10 : u10 = true := (unhide H_c12 rfl).2
      have z6 : u6 = true := (unhide H_c10 z10).2
      have HSS : So B g (k + 3 + 3 + 3) W ∧ Mv g V W := by have := unhide H_kS rfl; simpa [z6, z10] using this
      have Z6 := hide z6
      have Z10 := hide z10
      clear z6 z10
      go_simp
      refine (next_any (k := (k + 3 + 3 + 3)) 8 HSS.1 (by omega) (by omega) (by omega)).mono ?_
      rintro e w8 ⟨r, rfl, hr1, hr2, hs, mv⟩
      exact unhide hK _ _ ⟨u0, u1, u2, u3, u4, u5, u6, u7, u8, u9, u10, u11, true, true, true, false, u16, false, r1, r2, r3, r, T, rfl, rfl, (fun _ => ⟨by simp [unhide Z6, unhide Z10]; exact hs.up (by omega), HSS.2.trans mv⟩), unhide H_b6, unhide H_b10, unhide H_b12, (fun _ => ⟨hr1, hr2⟩), (fun h h2 => ⟨(mv.block _ (unhide H_qT h rfl).1.lt (by have := (unhide H_qT h rfl).2; omega)).trans (unhide H_qT h rfl).1, (unhide H_qT h rfl).2⟩), (fun h => nomatch h), unhide H_c2, unhide H_c3, unhide H_c4, unhide H_c6, unhide H_c7, unhide H_c8, unhide H_c10, unhide H_c12, (fun _ => ⟨rfl, rfl⟩), (fun h => nomatch h), (fun h => nomatch h)⟩
    · intro h0 hd K hK
      have z : u15 = false := h0
      have z17_ : u17 = false := by
        cases hu : u17 with
        | false => rfl
        | true => exact nomatch z.symm.trans ((kF hu).2.2.2.2.2.2.2.2.2.2.2.2.2.2.2.1)
      have zd : u4 = true ∧ u8 = true ∧ u10 = true ∧ u12 = true ∧ u14 = true := by
        simp [Region.binds] at hd
        simp [hd]
      have H_kS := hide kS
      have H_b6 := hide b6
      have H_b10 := hide b10
      have H_b12 := hide b12
      have H_b14 := hide b14
      have H_qT := hide qT
      have H_kZ := hide kZ
      have H_c2 := hide c2
      have H_c3 := hide c3
      have H_c4 := hide c4
      have H_c6 := hide c6
      have H_c7 := hide c7
      have H_c8 := hide c8
      have H_c10 := hide c10
      have H_c12 := hide c12
      have H_c14 := hide c14
      have H_c15 := hide c15
      have H_kF := hide kF
      clear kS b6 b10 b12 b14 qT kZ c2 c3 c4 c6 c7 c8 c10 c12 c14 c15 kF
      obtain ⟨rfl, rfl, rfl, rfl, rfl⟩ := zd
      subst z17_
      subst z
      clear h0 hd
      rw [if_pos (by rfl)]
      go_simp
      exact unhide hK _ _ ⟨u0, u1, u2, u3, true, u5, u6, u7, true, u9, true, u11, true, u13, true, true, u16, false, r1, r2, r3, r4, T, rfl, rfl, unhide H_kS, unhide H_b6, unhide H_b10, unhide H_b12, unhide H_b14, unhide H_qT, (fun h => nomatch h), unhide H_c2, unhide H_c3, unhide H_c4, unhide H_c6, unhide H_c7, unhide H_c8, unhide H_c10, (fun h => ⟨(unhide H_c12 h).1, rfl⟩), (fun h => ⟨(unhide H_c14 h).1, rfl⟩), (fun _ => ⟨rfl, rfl, rfl, rfl, rfl⟩), (fun h => nomatch h)⟩
    · intro h0 hd K hK
      have z : u16 = false := h0
      have z17_ : u17 = false := by
        cases hu : u17 with
        | false => rfl
        | true => exact nomatch z.symm.trans ((kF hu).2.2.2.2.2.2.2.2.2.2.2.2.2.2.2.2)
      have H_kS := hide kS
      have H_b6 := hide b6
      have H_b10 := hide b10
      have H_b12 := hide b12
      have H_b14 := hide b14
      have H_qT := hide qT
      have H_kZ := hide kZ
      have H_c2 := hide c2
      have H_c3 := hide c3
      have H_c4 := hide c4
      have H_c6 := hide c6
      have H_c7 := hide c7
      have H_c8 := hide c8
      have H_c10 := hide c10
      have H_c12 := hide c12
      have H_c14 := hide c14
      have H_c15 := hide c15
      have H_kF := hide kF
      clear kS b6 b10 b12 b14 qT kZ c2 c3 c4 c6 c7 c8 c10 c12 c14 c15 kF
      subst z17_
      subst z
      clear h0 hd
      rw [if_pos (by rfl)]
      go_simp
      exact unhide hK _ _ ⟨u0, u1, u2, u3, u4, u5, u6, u7, u8, u9, u10, u11, u12, u13, u14, u15, true, false, r1, r2, r3, r4, W.heap.size, rfl, rfl, (fun _ => ⟨(unhide H_kS rfl).1.alloc _, (unhide H_kS rfl).2.alloc _⟩), unhide H_b6, unhide H_b10, unhide H_b12, unhide H_b14, (fun _ _ => ⟨vblk_new W 29 _, (unhide H_kS rfl).2.size⟩), (fun h => nomatch h), unhide H_c2, unhide H_c3, unhide H_c4, unhide H_c6, unhide H_c7, unhide H_c8, unhide H_c10, unhide H_c12, unhide H_c14, unhide H_c15, (fun h => nomatch h)⟩
    · intro h0 hd K hK
      have z : u17 = false := h0
      have zd : u15 = true ∧ u16 = true ∧ u0 = true ∧ u1 = true ∧ u2 = true ∧ u3 = true ∧ u4 = true ∧ u5 = true ∧ u6 = true ∧ u7 = true ∧ u8 = true ∧ u9 = true ∧ u10 = true ∧ u11 = true ∧ u12 = true ∧ u13 = true ∧ u14 = true := by
        simp [Region.binds] at hd
        simp [hd]
      have H_kS := hide kS
      have H_b6 := hide b6
      have H_b10 := hide b10
      have H_b12 := hide b12
      have H_b14 := hide b14
      have H_qT := hide qT
      have H_kZ := hide kZ
      have H_c2 := hide c2
      have H_c3 := hide c3
      have H_c4 := hide c4
      have H_c6 := hide c6
      have H_c7 := hide c7
      have H_c8 := hide c8
      have H_c10 := hide c10
      have H_c12 := hide c12
      have H_c14 := hide c14
      have H_c15 := hide c15
      have H_kF := hide kF
      clear kS b6 b10 b12 b14 qT kZ c2 c3 c4 c6 c7 c8 c10 c12 c14 c15 kF
      obtain ⟨rfl, rfl, rfl, rfl, rfl, rfl, rfl, rfl, rfl, rfl, rfl, rfl, rfl, rfl, rfl, rfl, rfl⟩ := zd
      subst z
      clear h0 hd
      rw [if_pos (by rfl)]
      have cb := (unhide H_qT rfl rfl).1
      have hT := (unhide H_qT rfl rfl).2
      have cc0 := cb.cell (m := 0) rfl
      have cc1 := cb.cell (m := 1) rfl
      have cc2 := cb.cell (m := 2) rfl
      have cc3 := cb.cell (m := 3) rfl
      have cc4 := cb.cell (m := 4) rfl
      have cf : ∀ o, W.frozen? ⟨T, o, none⟩ = false := cb.frozen
      have HCB := hide cb
      have HHT := hide hT
      clear cb
      go_simp
      exact unhide hK _ _ ⟨true, true, true, true, true, true, true, true, true, true, true, true, true, true, true, true, true, true, r1, r2, r3, r4, T, rfl, rfl, (fun h => nomatch h), unhide H_b6, unhide H_b10, unhide H_b12, unhide H_b14, (fun _ h => nomatch h), (fun _ => by have hx := unhide H_kS rfl; simp at hx; have h3 := hx.1.above; exact ⟨(((((hx.1.set (by omega) (by omega) _ _).set (by omega) (by omega) _ _).set (by omega) (by omega) _ _).set (by omega) (by omega) _ _).set (by omega) (by omega) _ _).up (by omega), ((((hx.2.new hT _ _).new hT _ _).new hT _ _).new hT _ _).new hT _ _, (((((unhide HCB).set 0 _).set 1 _).set 2 _).set 3 _).set 4 _, hT⟩), (fun _ => rfl), (fun _ => ⟨rfl, rfl⟩), (fun _ => rfl), (fun _ => rfl), (fun _ => rfl), (fun _ => rfl), (fun _ => ⟨rfl, rfl⟩), (fun _ => ⟨rfl, rfl⟩), (fun _ => ⟨rfl, rfl⟩), (fun _ => ⟨rfl, rfl, rfl, rfl, rfl⟩), (fun _ => ⟨rfl, rfl, rfl, rfl, rfl, rfl, rfl, rfl, rfl, rfl, rfl, rfl, rfl, rfl, rfl, rfl, rfl⟩)⟩
  case hend =>
    rintro Lb A W ⟨u0, u1, u2, u3, u4, u5, u6, u7, u8, u9, u10, u11, u12, u13, u14, u15, u16, u17, r1, r2, r3, r4, T, rfl, rfl, kS, b6, b10, b12, b14, qT, kZ, c2, c3, c4, c6, c7, c8, c10, c12, c14, c15, kF⟩ hL
    have hl : u0 = true ∧ u1 = true ∧ u2 = true ∧ u3 = true ∧ u4 = true ∧ u5 = true ∧ u6 = true ∧ u7 = true ∧ u8 = true ∧ u9 = true ∧ u10 = true ∧ u11 = true ∧ u12 = true ∧ u13 = true ∧ u14 = true ∧ u15 = true ∧ u16 = true ∧ u17 = true := by
      have h2 := congrArg Array.toList hL
      simpa [List.replicate] using h2
    obtain ⟨rfl, rfl, rfl, rfl, rfl, rfl, rfl, rfl, rfl, rfl, rfl, rfl, rfl, rfl, rfl, rfl, rfl, rfl⟩ := hl
    have h1 := b6 rfl
    have h2 := b10 rfl
    have h3 := b12 rfl
    have h4 := b14 rfl
    exact unhide HQ _ _ _ _ _ _ _ _ _ _ _ _ _ _ _ _ r1 r2 r3 r4 T W h1 h2 h3 h4 (kZ rfl)
end Go.Proofs.Ytmhdodecofpchaa
