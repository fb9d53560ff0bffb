/-
  A statement of the way on from a corner, walked alone: the ways to the left and to the right.
-/
import Derived.Test.YtjhldjojkaphkaaWy2
import Derived.Test.YtjhldjojkaphkaaInv2
namespace Go.Proofs.Ytjhldjojkaphkaa
open Go.ChangeShapes Go.WideShapes Go.ChangeAt Go.RowKit
set_option linter.unusedVariables false
set_option linter.unusedSimpArgs false

set_option maxHeartbeats 4000000 in
set_option maxRecDepth 100000 in
theorem wy1 {s0 s1 s2 s7 s8 s9 s10 s11 s12 s13 s14 s15 s16 s17 s18 s19 s20 s21 s22 s23 s24 s25 s26 s27 s28 s29 s30 s31 s32 s33 s34 s35 s36 s37 s38 s39 s40 s41 s42 s43 s44 : Value} {b4 b5 b6 : Nat} {z v u : Int} {V : World} {K_ : Act → World → Prop} (n1 : IntKind.i64.wrap (-u) = -u) (n2 : IntKind.i64.wrap (-v) = -v)
    (H6 : Hid (vb V b6 46 [.int .i64 v, .int .i64 u]))
    (hQ : ∀ (b9 b10 : Nat) (W' : World), Below V.heap.size V W' → vb W' b9 46 [.int .i64 (-u), .int .i64 v] → vb W' b10 46 [.int .i64 u, .int .i64 (-v)] → K_ { tmps := #[s0, s1, s2, .int .i64 (z), .pointer (some ⟨b4, 0, none⟩), .pointer (some ⟨b5, 0, none⟩), .pointer (some ⟨b6, 0, none⟩), s7, s8, .pointer (some ⟨b9, 0, none⟩), .pointer (some ⟨b10, 0, none⟩), .pointer (some ⟨b6, 1, none⟩), .int .i64 (u), .int .i64 (-u), .pointer (some ⟨b6, 0, none⟩), .int .i64 (v), .agg #[.int .i64 (-u), .int .i64 (v)], .pointer (some ⟨b6, 1, none⟩), .int .i64 (u), .pointer (some ⟨b6, 0, none⟩), .int .i64 (v), .int .i64 (-v), .agg #[.int .i64 (u), .int .i64 (-v)], s23, s24, s25, s26, s27, s28, s29, s30, s31, s32, s33, s34, s35, s36, s37, s38, s39, s40, s41, s42, s43, s44], defers := [] } W') :
    Go.Code.wp Try.prog (reg89 1) (Only K_) { tmps := #[s0, s1, s2, .int .i64 (z), .pointer (some ⟨b4, 0, none⟩), .pointer (some ⟨b5, 0, none⟩), .pointer (some ⟨b6, 0, none⟩), s7, s8, s9, s10, s11, s12, s13, s14, s15, s16, s17, s18, s19, s20, s21, s22, s23, s24, s25, s26, s27, s28, s29, s30, s31, s32, s33, s34, s35, s36, s37, s38, s39, s40, s41, s42, s43, s44], defers := [] } V := by
  have HQ := hide hQ
  have l0 := (unhide H6).lt
  clear hQ
  conv => arg 2; whnf
  refine wp_region_inv2 (fun Lb A W => ∃ (u0 u1 u2 u3 u4 u5 u6 u7 u8 u9 u10 u11 u12 u13 u14 u15 : Bool) (b9 : Nat) (b10 : Nat), Lb = #[u0, u1, u2, u3, u4, u5, u6, u7, u8, u9, u10, u11, u12, u13, u14, u15] ∧ A = ({ tmps := #[s0, s1, s2, .int .i64 (z), .pointer (some ⟨b4, 0, none⟩), .pointer (some ⟨b5, 0, none⟩), .pointer (some ⟨b6, 0, none⟩), s7, s8, (bif u12 then .pointer (some ⟨b9, 0, none⟩) else s9), (bif u13 then .pointer (some ⟨b10, 0, none⟩) else s10), (bif u0 then .pointer (some ⟨b6, 1, none⟩) else s11), (bif u1 then .int .i64 (u) else s12), (bif u2 then .int .i64 (-u) else s13), (bif u3 then .pointer (some ⟨b6, 0, none⟩) else s14), (bif u4 then .int .i64 (v) else s15), (bif u5 then .agg #[.int .i64 (-u), .int .i64 (v)] else s16), (bif u6 then .pointer (some ⟨b6, 1, none⟩) else s17), (bif u7 then .int .i64 (u) else s18), (bif u8 then .pointer (some ⟨b6, 0, none⟩) else s19), (bif u9 then .int .i64 (v) else s20), (bif u10 then .int .i64 (-v) else s21), (bif u11 then .agg #[.int .i64 (u), .int .i64 (-v)] else s22), s23, s24, s25, s26, s27, s28, s29, s30, s31, s32, s33, s34, s35, s36, s37, s38, s39, s40, s41, s42, s43, s44], defers := [] } : Act) ∧ vb W b6 46 [.int .i64 v, .int .i64 u] ∧ Below V.heap.size V W ∧ (u12 = true → u14 = false → vb W b9 46 [.int .i64 0, .int .i64 0] ∧ V.heap.size ≤ b9) ∧ (u14 = true → vb W b9 46 [.int .i64 (-u), .int .i64 v] ∧ V.heap.size ≤ b9) ∧ (u13 = true → u15 = false → vb W b10 46 [.int .i64 0, .int .i64 0] ∧ V.heap.size ≤ b10) ∧ (u15 = true → vb W b10 46 [.int .i64 u, .int .i64 (-v)] ∧ V.heap.size ≤ b10) ∧ (u12 = true → u13 = true → b9 ≠ b10) ∧ (u1 = true → u0 = true) ∧ (u2 = true → u1 = true) ∧ (u4 = true → u3 = true) ∧ (u5 = true → u2 = true ∧ u4 = true) ∧ (u7 = true → u6 = true) ∧ (u9 = true → u8 = true) ∧ (u10 = true → u9 = true) ∧ (u11 = true → u7 = true ∧ u10 = true) ∧ (u14 = true → u5 = true ∧ u12 = true ∧ u13 = true) ∧ (u15 = true → u0 = true ∧ u1 = true ∧ u2 = true ∧ u3 = true ∧ u4 = true ∧ u5 = true ∧ u6 = true ∧ u7 = true ∧ u8 = true ∧ u9 = true ∧ u10 = true ∧ u11 = true ∧ u12 = true ∧ u13 = true ∧ u14 = true)) (by kernel_rfl) (by kernel_rfl) ?h0 ?hstep ?hend
  case h0 =>
    exact ⟨false, false, false, false, false, false, false, false, false, false, false, false, false, false, false, false, 0, 0, rfl, rfl, unhide H6, Below.drew (Below.refl _ _), (fun h => nomatch h), (fun h => nomatch h), (fun h => nomatch h), (fun h => nomatch h), (fun h => nomatch h), (fun h => nomatch h), (fun h => nomatch h), (fun h => nomatch h), (fun h => nomatch h), (fun h => nomatch h), (fun h => nomatch h), (fun h => nomatch h), (fun h => nomatch h), (fun h => nomatch h), (fun h => nomatch h)⟩
  case hstep =>
    rintro Lb A W ⟨u0, u1, u2, u3, u4, u5, u6, u7, u8, u9, u10, u11, u12, u13, u14, u15, b9, b10, rfl, rfl, kV, kB, k9, k9b, k10, k10b, kn, c1, c2, c4, c5, c7, c9, c10, c11, c14, kF⟩
    refine ⟨?_, ?_, ?_, ?_, ?_, ?_, ?_, ?_, ?_, ?_, ?_, ?_, ?_, ?_, ?_, ?_, trivial⟩
    · intro h0 hd K hK
      have z : u0 = false := h0
      have z15_ : u15 = false := by
        cases hu : u15 with
        | false => rfl
        | true => exact nomatch z.symm.trans ((kF hu).1)
      have z14_ : u14 = false := by
        cases hu : u14 with
        | false => rfl
        | true => exact nomatch z.symm.trans ((c1 (c2 (c5 (c14 hu).1).1)))
      have H_kV := hide kV
      have H_kB := hide kB
      have H_k9 := hide k9
      have H_k9b := hide k9b
      have H_k10 := hide k10
      have H_k10b := hide k10b
      have H_kn := hide kn
      have H_c1 := hide c1
      have H_c2 := hide c2
      have H_c4 := hide c4
      have H_c5 := hide c5
      have H_c7 := hide c7
      have H_c9 := hide c9
      have H_c10 := hide c10
      have H_c11 := hide c11
      have H_c14 := hide c14
      have H_kF := hide kF
      clear kV kB k9 k9b k10 k10b kn c1 c2 c4 c5 c7 c9 c10 c11 c14 kF
      subst z15_
      subst z14_
      subst z
      clear h0 hd
      rw [if_pos (by rfl)]
      go_simp
      exact unhide hK _ _ ⟨true, u1, u2, u3, u4, u5, u6, u7, u8, u9, u10, u11, u12, u13, false, false, b9, b10, rfl, rfl, unhide H_kV, unhide H_kB, unhide H_k9, (fun h => nomatch h), unhide H_k10, (fun h => nomatch h), unhide H_kn, (fun h => rfl), unhide H_c2, unhide H_c4, unhide H_c5, unhide H_c7, unhide H_c9, unhide H_c10, unhide H_c11, (fun h => nomatch h), (fun h => nomatch h)⟩
    · intro h0 hd K hK
      have z : u1 = false := h0
      have z15_ : u15 = false := by
        cases hu : u15 with
        | false => rfl
        | true => exact nomatch z.symm.trans ((kF hu).2.1)
      have z14_ : u14 = false := by
        cases hu : u14 with
        | false => rfl
        | true => exact nomatch z.symm.trans ((c2 (c5 (c14 hu).1).1))
      have zd : u0 = true := by
        simp [Region.binds] at hd
        simp [hd]
      have H_kV := hide kV
      have H_kB := hide kB
      have H_k9 := hide k9
      have H_k9b := hide k9b
      have H_k10 := hide k10
      have H_k10b := hide k10b
      have H_kn := hide kn
      have H_c1 := hide c1
      have H_c2 := hide c2
      have H_c4 := hide c4
      have H_c5 := hide c5
      have H_c7 := hide c7
      have H_c9 := hide c9
      have H_c10 := hide c10
      have H_c11 := hide c11
      have H_c14 := hide c14
      have H_kF := hide kF
      clear kV kB k9 k9b k10 k10b kn c1 c2 c4 c5 c7 c9 c10 c11 c14 kF
      obtain ⟨rfl⟩ := zd
      subst z15_
      subst z14_
      subst z
      clear h0 hd
      rw [if_pos (by rfl)]
      have v1 := unhide H_kV
      have q0 := v1.cell (m := 0) rfl
      have q1 := v1.cell (m := 1) rfl
      clear v1
      go_simp
      exact unhide hK _ _ ⟨true, true, u2, u3, u4, u5, u6, u7, u8, u9, u10, u11, u12, u13, false, false, b9, b10, rfl, rfl, unhide H_kV, unhide H_kB, unhide H_k9, (fun h => nomatch h), unhide H_k10, (fun h => nomatch h), unhide H_kn, (fun _ => rfl), (fun h => rfl), unhide H_c4, unhide H_c5, unhide H_c7, unhide H_c9, unhide H_c10, unhide H_c11, (fun h => nomatch h), (fun h => nomatch h)⟩
    · intro h0 hd K hK
      have z : u2 = false := h0
      have z15_ : u15 = false := by
        cases hu : u15 with
        | false => rfl
        | true => exact nomatch z.symm.trans ((kF hu).2.2.1)
      have z14_ : u14 = false := by
        cases hu : u14 with
        | false => rfl
        | true => exact nomatch z.symm.trans ((c5 (c14 hu).1).1)
      have zd : u1 = true := by
        simp [Region.binds] at hd
        simp [hd]
      have H_kV := hide kV
      have H_kB := hide kB
      have H_k9 := hide k9
      have H_k9b := hide k9b
      have H_k10 := hide k10
      have H_k10b := hide k10b
      have H_kn := hide kn
      have H_c1 := hide c1
      have H_c2 := hide c2
      have H_c4 := hide c4
      have H_c5 := hide c5
      have H_c7 := hide c7
      have H_c9 := hide c9
      have H_c10 := hide c10
      have H_c11 := hide c11
      have H_c14 := hide c14
      have H_kF := hide kF
      clear kV kB k9 k9b k10 k10b kn c1 c2 c4 c5 c7 c9 c10 c11 c14 kF
      obtain ⟨rfl⟩ := zd
      subst z15_
      subst z14_
      subst z
      clear h0 hd
      rw [if_pos (by rfl)]
      go_simp
      exact unhide hK _ _ ⟨u0, true, true, u3, u4, u5, u6, u7, u8, u9, u10, u11, u12, u13, false, false, b9, b10, rfl, rfl, unhide H_kV, unhide H_kB, unhide H_k9, (fun h => nomatch h), unhide H_k10, (fun h => nomatch h), unhide H_kn, unhide H_c1, (fun _ => rfl), unhide H_c4, (fun h => ⟨rfl, (unhide H_c5 h).2⟩), unhide H_c7, unhide H_c9, unhide H_c10, unhide H_c11, (fun h => nomatch h), (fun h => nomatch h)⟩
    · intro h0 hd K hK
      have z : u3 = false := h0
      have z15_ : u15 = false := by
        cases hu : u15 with
        | false => rfl
        | true => exact nomatch z.symm.trans ((kF hu).2.2.2.1)
      have z14_ : u14 = false := by
        cases hu : u14 with
        | false => rfl
        | true => exact nomatch z.symm.trans ((c4 (c5 (c14 hu).1).2))
      have H_kV := hide kV
      have H_kB := hide kB
      have H_k9 := hide k9
      have H_k9b := hide k9b
      have H_k10 := hide k10
      have H_k10b := hide k10b
      have H_kn := hide kn
      have H_c1 := hide c1
      have H_c2 := hide c2
      have H_c4 := hide c4
      have H_c5 := hide c5
      have H_c7 := hide c7
      have H_c9 := hide c9
      have H_c10 := hide c10
      have H_c11 := hide c11
      have H_c14 := hide c14
      have H_kF := hide kF
      clear kV kB k9 k9b k10 k10b kn c1 c2 c4 c5 c7 c9 c10 c11 c14 kF
      subst z15_
      subst z14_
      subst z
      clear h0 hd
      rw [if_pos (by rfl)]
      go_simp
      exact unhide hK _ _ ⟨u0, u1, u2, true, u4, u5, u6, u7, u8, u9, u10, u11, u12, u13, false, false, b9, b10, rfl, rfl, unhide H_kV, unhide H_kB, unhide H_k9, (fun h => nomatch h), unhide H_k10, (fun h => nomatch h), unhide H_kn, unhide H_c1, unhide H_c2, (fun h => rfl), unhide H_c5, unhide H_c7, unhide H_c9, unhide H_c10, unhide H_c11, (fun h => nomatch h), (fun h => nomatch h)⟩
    · intro h0 hd K hK
      have z : u4 = false := h0
      have z15_ : u15 = false := by
        cases hu : u15 with
        | false => rfl
        | true => exact nomatch z.symm.trans ((kF hu).2.2.2.2.1)
      have z14_ : u14 = false := by
        cases hu : u14 with
        | false => rfl
        | true => exact nomatch z.symm.trans ((c5 (c14 hu).1).2)
      have zd : u3 = true := by
        simp [Region.binds] at hd
        simp [hd]
      have H_kV := hide kV
      have H_kB := hide kB
      have H_k9 := hide k9
      have H_k9b := hide k9b
      have H_k10 := hide k10
      have H_k10b := hide k10b
      have H_kn := hide kn
      have H_c1 := hide c1
      have H_c2 := hide c2
      have H_c4 := hide c4
      have H_c5 := hide c5
      have H_c7 := hide c7
      have H_c9 := hide c9
      have H_c10 := hide c10
      have H_c11 := hide c11
      have H_c14 := hide c14
      have H_kF := hide kF
      clear kV kB k9 k9b k10 k10b kn c1 c2 c4 c5 c7 c9 c10 c11 c14 kF
      obtain ⟨rfl⟩ := zd
      subst z15_
      subst z14_
      subst z
      clear h0 hd
      rw [if_pos (by rfl)]
      have v1 := unhide H_kV
      have q0 := v1.cell (m := 0) rfl
      have q1 := v1.cell (m := 1) rfl
      clear v1
      go_simp
      exact unhide hK _ _ ⟨u0, u1, u2, true, true, u5, u6, u7, u8, u9, u10, u11, u12, u13, false, false, b9, b10, rfl, rfl, unhide H_kV, unhide H_kB, unhide H_k9, (fun h => nomatch h), unhide H_k10, (fun h => nomatch h), unhide H_kn, unhide H_c1, unhide H_c2, (fun _ => rfl), (fun h => ⟨(unhide H_c5 h).1, rfl⟩), unhide H_c7, unhide H_c9, unhide H_c10, unhide H_c11, (fun h => nomatch h), (fun h => nomatch h)⟩
    · intro h0 hd K hK
      have z : u5 = false := h0
      have z15_ : u15 = false := by
        cases hu : u15 with
        | false => rfl
        | true => exact nomatch z.symm.trans ((kF hu).2.2.2.2.2.1)
      have z14_ : u14 = false := by
        cases hu : u14 with
        | false => rfl
        | true => exact nomatch z.symm.trans ((c14 hu).1)
      have zd : u2 = true ∧ u4 = true := by
        simp [Region.binds] at hd
        simp [hd]
      have H_kV := hide kV
      have H_kB := hide kB
      have H_k9 := hide k9
      have H_k9b := hide k9b
      have H_k10 := hide k10
      have H_k10b := hide k10b
      have H_kn := hide kn
      have H_c1 := hide c1
      have H_c2 := hide c2
      have H_c4 := hide c4
      have H_c5 := hide c5
      have H_c7 := hide c7
      have H_c9 := hide c9
      have H_c10 := hide c10
      have H_c11 := hide c11
      have H_c14 := hide c14
      have H_kF := hide kF
      clear kV kB k9 k9b k10 k10b kn c1 c2 c4 c5 c7 c9 c10 c11 c14 kF
      obtain ⟨rfl, rfl⟩ := zd
      subst z15_
      subst z14_
      subst z
      clear h0 hd
      rw [if_pos (by rfl)]
      go_simp
      exact unhide hK _ _ ⟨u0, u1, true, u3, true, true, u6, u7, u8, u9, u10, u11, u12, u13, false, false, b9, b10, rfl, rfl, unhide H_kV, unhide H_kB, unhide H_k9, (fun h => nomatch h), unhide H_k10, (fun h => nomatch h), unhide H_kn, unhide H_c1, unhide H_c2, unhide H_c4, (fun _ => ⟨rfl, rfl⟩), unhide H_c7, unhide H_c9, unhide H_c10, unhide H_c11, (fun h => nomatch h), (fun h => nomatch h)⟩
    · intro h0 hd K hK
      have z : u6 = false := h0
      have z15_ : u15 = false := by
        cases hu : u15 with
        | false => rfl
        | true => exact nomatch z.symm.trans ((kF hu).2.2.2.2.2.2.1)
      have H_kV := hide kV
      have H_kB := hide kB
      have H_k9 := hide k9
      have H_k9b := hide k9b
      have H_k10 := hide k10
      have H_k10b := hide k10b
      have H_kn := hide kn
      have H_c1 := hide c1
      have H_c2 := hide c2
      have H_c4 := hide c4
      have H_c5 := hide c5
      have H_c7 := hide c7
      have H_c9 := hide c9
      have H_c10 := hide c10
      have H_c11 := hide c11
      have H_c14 := hide c14
      have H_kF := hide kF
      clear kV kB k9 k9b k10 k10b kn c1 c2 c4 c5 c7 c9 c10 c11 c14 kF
      subst z15_
      subst z
      clear h0 hd
      rw [if_pos (by rfl)]
      go_simp
      exact unhide hK _ _ ⟨u0, u1, u2, u3, u4, u5, true, u7, u8, u9, u10, u11, u12, u13, u14, false, b9, b10, rfl, rfl, unhide H_kV, unhide H_kB, unhide H_k9, unhide H_k9b, unhide H_k10, (fun h => nomatch h), unhide H_kn, unhide H_c1, unhide H_c2, unhide H_c4, unhide H_c5, (fun h => rfl), unhide H_c9, unhide H_c10, unhide H_c11, unhide H_c14, (fun h => nomatch h)⟩
    · intro h0 hd K hK
      have z : u7 = false := h0
      have z15_ : u15 = false := by
        cases hu : u15 with
        | false => rfl
        | true => exact nomatch z.symm.trans ((kF hu).2.2.2.2.2.2.2.1)
      have zd : u6 = true := by
        simp [Region.binds] at hd
        simp [hd]
      have H_kV := hide kV
      have H_kB := hide kB
      have H_k9 := hide k9
      have H_k9b := hide k9b
      have H_k10 := hide k10
      have H_k10b := hide k10b
      have H_kn := hide kn
      have H_c1 := hide c1
      have H_c2 := hide c2
      have H_c4 := hide c4
      have H_c5 := hide c5
      have H_c7 := hide c7
      have H_c9 := hide c9
      have H_c10 := hide c10
      have H_c11 := hide c11
      have H_c14 := hide c14
      have H_kF := hide kF
      clear kV kB k9 k9b k10 k10b kn c1 c2 c4 c5 c7 c9 c10 c11 c14 kF
      obtain ⟨rfl⟩ := zd
      subst z15_
      subst z
      clear h0 hd
      rw [if_pos (by rfl)]
      have v1 := unhide H_kV
      have q0 := v1.cell (m := 0) rfl
      have q1 := v1.cell (m := 1) rfl
      clear v1
      go_simp
      exact unhide hK _ _ ⟨u0, u1, u2, u3, u4, u5, true, true, u8, u9, u10, u11, u12, u13, u14, false, b9, b10, rfl, rfl, unhide H_kV, unhide H_kB, unhide H_k9, unhide H_k9b, unhide H_k10, (fun h => nomatch h), unhide H_kn, unhide H_c1, unhide H_c2, unhide H_c4, unhide H_c5, (fun _ => rfl), unhide H_c9, unhide H_c10, (fun h => ⟨rfl, (unhide H_c11 h).2⟩), unhide H_c14, (fun h => nomatch h)⟩
    · intro h0 hd K hK
      have z : u8 = false := h0
      have z15_ : u15 = false := by
        cases hu : u15 with
        | false => rfl
        | true => exact nomatch z.symm.trans ((kF hu).2.2.2.2.2.2.2.2.1)
      have H_kV := hide kV
      have H_kB := hide kB
      have H_k9 := hide k9
      have H_k9b := hide k9b
      have H_k10 := hide k10
      have H_k10b := hide k10b
      have H_kn := hide kn
      have H_c1 := hide c1
      have H_c2 := hide c2
      have H_c4 := hide c4
      have H_c5 := hide c5
      have H_c7 := hide c7
      have H_c9 := hide c9
      have H_c10 := hide c10
      have H_c11 := hide c11
      have H_c14 := hide c14
      have H_kF := hide kF
      clear kV kB k9 k9b k10 k10b kn c1 c2 c4 c5 c7 c9 c10 c11 c14 kF
      subst z15_
      subst z
      clear h0 hd
      rw [if_pos (by rfl)]
      go_simp
      exact unhide hK _ _ ⟨u0, u1, u2, u3, u4, u5, u6, u7, true, u9, u10, u11, u12, u13, u14, false, b9, b10, rfl, rfl, unhide H_kV, unhide H_kB, unhide H_k9, unhide H_k9b, unhide H_k10, (fun h => nomatch h), unhide H_kn, unhide H_c1, unhide H_c2, unhide H_c4, unhide H_c5, unhide H_c7, (fun h => rfl), unhide H_c10, unhide H_c11, unhide H_c14, (fun h => nomatch h)⟩
    · intro h0 hd K hK
      have z : u9 = false := h0
      have z15_ : u15 = false := by
        cases hu : u15 with
        | false => rfl
        | true => exact nomatch z.symm.trans ((kF hu).2.2.2.2.2.2.2.2.2.1)
      have zd : u8 = true := by
        simp [Region.binds] at hd
        simp [hd]
      have H_kV := hide kV
      have H_kB := hide kB
      have H_k9 := hide k9
      have H_k9b := hide k9b
      have H_k10 := hide k10
      have H_k10b := hide k10b
      have H_kn := hide kn
      have H_c1 := hide c1
      have H_c2 := hide c2
      have H_c4 := hide c4
      have H_c5 := hide c5
      have H_c7 := hide c7
      have H_c9 := hide c9
      have H_c10 := hide c10
      have H_c11 := hide c11
      have H_c14 := hide c14
      have H_kF := hide kF
      clear kV kB k9 k9b k10 k10b kn c1 c2 c4 c5 c7 c9 c10 c11 c14 kF
      obtain ⟨rfl⟩ := zd
      subst z15_
      subst z
      clear h0 hd
      rw [if_pos (by rfl)]
      have v1 := unhide H_kV
      have q0 := v1.cell (m := 0) rfl
      have q1 := v1.cell (m := 1) rfl
      clear v1
      go_simp
      exact unhide hK _ _ ⟨u0, u1, u2, u3, u4, u5, u6, u7, true, true, u10, u11, u12, u13, u14, false, b9, b10, rfl, rfl, unhide H_kV, unhide H_kB, unhide H_k9, unhide H_k9b, unhide H_k10, (fun h => nomatch h), unhide H_kn, unhide H_c1, unhide H_c2, unhide H_c4, unhide H_c5, unhide H_c7, (fun _ => rfl), (fun h => rfl), unhide H_c11, unhide H_c14, (fun h => nomatch h)⟩
    · intro h0 hd K hK
      have z : u10 = false := h0
      have z15_ : u15 = false := by
        cases hu : u15 with
        | false => rfl
        | true => exact nomatch z.symm.trans ((kF hu).2.2.2.2.2.2.2.2.2.2.1)
      have zd : u9 = true := by
        simp [Region.binds] at hd
        simp [hd]
      have H_kV := hide kV
      have H_kB := hide kB
      have H_k9 := hide k9
      have H_k9b := hide k9b
      have H_k10 := hide k10
      have H_k10b := hide k10b
      have H_kn := hide kn
      have H_c1 := hide c1
      have H_c2 := hide c2
      have H_c4 := hide c4
      have H_c5 := hide c5
      have H_c7 := hide c7
      have H_c9 := hide c9
      have H_c10 := hide c10
      have H_c11 := hide c11
      have H_c14 := hide c14
      have H_kF := hide kF
      clear kV kB k9 k9b k10 k10b kn c1 c2 c4 c5 c7 c9 c10 c11 c14 kF
      obtain ⟨rfl⟩ := zd
      subst z15_
      subst z
      clear h0 hd
      rw [if_pos (by rfl)]
      go_simp
      exact unhide hK _ _ ⟨u0, u1, u2, u3, u4, u5, u6, u7, u8, true, true, u11, u12, u13, u14, false, b9, b10, rfl, rfl, unhide H_kV, unhide H_kB, unhide H_k9, unhide H_k9b, unhide H_k10, (fun h => nomatch h), unhide H_kn, unhide H_c1, unhide H_c2, unhide H_c4, unhide H_c5, unhide H_c7, unhide H_c9, (fun _ => rfl), (fun h => ⟨(unhide H_c11 h).1, rfl⟩), unhide H_c14, (fun h => nomatch h)⟩
    · intro h0 hd K hK
      have z : u11 = false := h0
      have z15_ : u15 = false := by
        cases hu : u15 with
        | false => rfl
        | true => exact nomatch z.symm.trans ((kF hu).2.2.2.2.2.2.2.2.2.2.2.1)
      have zd : u7 = true ∧ u10 = true := by
        simp [Region.binds] at hd
        simp [hd]
      have H_kV := hide kV
      have H_kB := hide kB
      have H_k9 := hide k9
      have H_k9b := hide k9b
      have H_k10 := hide k10
      have H_k10b := hide k10b
      have H_kn := hide kn
      have H_c1 := hide c1
      have H_c2 := hide c2
      have H_c4 := hide c4
      have H_c5 := hide c5
      have H_c7 := hide c7
      have H_c9 := hide c9
      have H_c10 := hide c10
      have H_c11 := hide c11
      have H_c14 := hide c14
      have H_kF := hide kF
      clear kV kB k9 k9b k10 k10b kn c1 c2 c4 c5 c7 c9 c10 c11 c14 kF
      obtain ⟨rfl, rfl⟩ := zd
      subst z15_
      subst z
      clear h0 hd
      rw [if_pos (by rfl)]
      go_simp
      exact unhide hK _ _ ⟨u0, u1, u2, u3, u4, u5, u6, true, u8, u9, true, true, u12, u13, u14, false, b9, b10, rfl, rfl, unhide H_kV, unhide H_kB, unhide H_k9, unhide H_k9b, unhide H_k10, (fun h => nomatch h), unhide H_kn, unhide H_c1, unhide H_c2, unhide H_c4, unhide H_c5, unhide H_c7, unhide H_c9, unhide H_c10, (fun _ => ⟨rfl, rfl⟩), unhide H_c14, (fun h => nomatch h)⟩
    · intro h0 hd K hK
      have z : u12 = false := h0
      have z15_ : u15 = false := by
        cases hu : u15 with
        | false => rfl
        | true => exact nomatch z.symm.trans ((kF hu).2.2.2.2.2.2.2.2.2.2.2.2.1)
      have z14_ : u14 = false := by
        cases hu : u14 with
        | false => rfl
        | true => exact nomatch z.symm.trans ((c14 hu).2.1)
      have H_kV := hide kV
      have H_kB := hide kB
      have H_k9 := hide k9
      have H_k9b := hide k9b
      have H_k10 := hide k10
      have H_k10b := hide k10b
      have H_kn := hide kn
      have H_c1 := hide c1
      have H_c2 := hide c2
      have H_c4 := hide c4
      have H_c5 := hide c5
      have H_c7 := hide c7
      have H_c9 := hide c9
      have H_c10 := hide c10
      have H_c11 := hide c11
      have H_c14 := hide c14
      have H_kF := hide kF
      clear kV kB k9 k9b k10 k10b kn c1 c2 c4 c5 c7 c9 c10 c11 c14 kF
      subst z15_
      subst z14_
      subst z
      clear h0 hd
      rw [if_pos (by rfl)]
      go_simp
      exact unhide hK _ _ ⟨u0, u1, u2, u3, u4, u5, u6, u7, u8, u9, u10, u11, true, u13, false, false, W.heap.size, b10, rfl, rfl, (unhide H_kV).bel (ba (Below.refl _ _) _), ba (unhide H_kB) _, (fun _ _ => ⟨vb_new W 46 _ _ rfl, (unhide H_kB).size⟩), (fun h => nomatch h), (fun h h2 => ⟨(unhide H_k10 h h2).1.bel (ba (Below.refl _ _) _), (unhide H_k10 h h2).2⟩), (fun h => nomatch h), (fun _ h => by have := (unhide H_k10 h rfl).1.lt; omega), unhide H_c1, unhide H_c2, unhide H_c4, unhide H_c5, unhide H_c7, unhide H_c9, unhide H_c10, unhide H_c11, (fun h => nomatch h), (fun h => nomatch h)⟩
    · intro h0 hd K hK
      have z : u13 = false := h0
      have z15_ : u15 = false := by
        cases hu : u15 with
        | false => rfl
        | true => exact nomatch z.symm.trans ((kF hu).2.2.2.2.2.2.2.2.2.2.2.2.2.1)
      have z14_ : u14 = false := by
        cases hu : u14 with
        | false => rfl
        | true => exact nomatch z.symm.trans ((c14 hu).2.2)
      have H_kV := hide kV
      have H_kB := hide kB
      have H_k9 := hide k9
      have H_k9b := hide k9b
      have H_k10 := hide k10
      have H_k10b := hide k10b
      have H_kn := hide kn
      have H_c1 := hide c1
      have H_c2 := hide c2
      have H_c4 := hide c4
      have H_c5 := hide c5
      have H_c7 := hide c7
      have H_c9 := hide c9
      have H_c10 := hide c10
      have H_c11 := hide c11
      have H_c14 := hide c14
      have H_kF := hide kF
      clear kV kB k9 k9b k10 k10b kn c1 c2 c4 c5 c7 c9 c10 c11 c14 kF
      subst z15_
      subst z14_
      subst z
      clear h0 hd
      rw [if_pos (by rfl)]
      go_simp
      exact unhide hK _ _ ⟨u0, u1, u2, u3, u4, u5, u6, u7, u8, u9, u10, u11, u12, true, false, false, b9, W.heap.size, rfl, rfl, (unhide H_kV).bel (ba (Below.refl _ _) _), ba (unhide H_kB) _, (fun h h2 => ⟨(unhide H_k9 h h2).1.bel (ba (Below.refl _ _) _), (unhide H_k9 h h2).2⟩), (fun h => nomatch h), (fun _ _ => ⟨vb_new W 46 _ _ rfl, (unhide H_kB).size⟩), (fun h => nomatch h), (fun h _ => by have := (unhide H_k9 h rfl).1.lt; omega), unhide H_c1, unhide H_c2, unhide H_c4, unhide H_c5, unhide H_c7, unhide H_c9, unhide H_c10, unhide H_c11, (fun h => nomatch h), (fun h => nomatch h)⟩
    · intro h0 hd K hK
      have z : u14 = false := h0
      have z15_ : u15 = false := by
        cases hu : u15 with
        | false => rfl
        | true => exact nomatch z.symm.trans ((kF hu).2.2.2.2.2.2.2.2.2.2.2.2.2.2)
      have zd : u5 = true ∧ u12 = true ∧ u13 = true := by
        simp [Region.binds] at hd
        simp [hd]
      have H_kV := hide kV
      have H_kB := hide kB
      have H_k9 := hide k9
      have H_k9b := hide k9b
      have H_k10 := hide k10
      have H_k10b := hide k10b
      have H_kn := hide kn
      have H_c1 := hide c1
      have H_c2 := hide c2
      have H_c4 := hide c4
      have H_c5 := hide c5
      have H_c7 := hide c7
      have H_c9 := hide c9
      have H_c10 := hide c10
      have H_c11 := hide c11
      have H_c14 := hide c14
      have H_kF := hide kF
      clear kV kB k9 k9b k10 k10b kn c1 c2 c4 c5 c7 c9 c10 c11 c14 kF
      obtain ⟨rfl, rfl, rfl⟩ := zd
      subst z15_
      subst z
      clear h0 hd
      rw [if_pos (by rfl)]
      have v1 := (unhide H_k9 rfl rfl).1
      have g9 := (unhide H_k9 rfl rfl).2
      have fz := v1.frozen
      have q0 := v1.cell (m := 0) rfl
      have q1 := v1.cell (m := 1) rfl
      have HV1 := hide v1
      have n6 : b6 ≠ b9 := by omega
      have n10 : b10 ≠ b9 := fun e => unhide H_kn rfl rfl e.symm
      clear v1
      go_simp
      exact unhide hK _ _ ⟨u0, u1, u2, u3, u4, true, u6, u7, u8, u9, u10, u11, true, true, true, false, b9, b10, rfl, rfl, ((unhide H_kV).ne n6).ne n6, ((unhide H_kB).setCell (p := ⟨b9, 0, none⟩) g9 _).setCell (p := ⟨b9, 1, none⟩) g9 _, (fun _ h => nomatch h), (fun _ => ⟨((unhide HV1).set 0 _).set 1 _, g9⟩), (fun h h2 => ⟨((unhide H_k10 h h2).1.ne n10).ne n10, (unhide H_k10 h h2).2⟩), (fun h => nomatch h), unhide H_kn, unhide H_c1, unhide H_c2, unhide H_c4, unhide H_c5, unhide H_c7, unhide H_c9, unhide H_c10, unhide H_c11, (fun _ => ⟨rfl, rfl, rfl⟩), (fun h => nomatch h)⟩
    · intro h0 hd K hK
      have z : u15 = false := h0
      have zd : u11 = true ∧ u13 = true ∧ u14 = true ∧ u0 = true ∧ u1 = true ∧ u2 = true ∧ u3 = true ∧ u4 = true ∧ u5 = true ∧ u6 = true ∧ u7 = true ∧ u8 = true ∧ u9 = true ∧ u10 = true ∧ u12 = true := by
        simp [Region.binds] at hd
        simp_all
      have H_kV := hide kV
      have H_kB := hide kB
      have H_k9 := hide k9
      have H_k9b := hide k9b
      have H_k10 := hide k10
      have H_k10b := hide k10b
      have H_kn := hide kn
      have H_c1 := hide c1
      have H_c2 := hide c2
      have H_c4 := hide c4
      have H_c5 := hide c5
      have H_c7 := hide c7
      have H_c9 := hide c9
      have H_c10 := hide c10
      have H_c11 := hide c11
      have H_c14 := hide c14
      have H_kF := hide kF
      clear kV kB k9 k9b k10 k10b kn c1 c2 c4 c5 c7 c9 c10 c11 c14 kF
      obtain ⟨rfl, rfl, rfl, rfl, rfl, rfl, rfl, rfl, rfl, rfl, rfl, rfl, rfl, rfl, rfl⟩ := zd
      subst z
      clear h0 hd
      rw [if_pos (by rfl)]
      have v1 := (unhide H_k10 rfl rfl).1
      have g10 := (unhide H_k10 rfl rfl).2
      have fz := v1.frozen
      have q0 := v1.cell (m := 0) rfl
      have q1 := v1.cell (m := 1) rfl
      have HV1 := hide v1
      have n6 : b6 ≠ b10 := by omega
      have n9 : b9 ≠ b10 := unhide H_kn rfl rfl
      clear v1
      go_simp
      exact unhide hK _ _ ⟨true, true, true, true, true, true, true, true, true, true, true, true, true, true, true, true, b9, b10, rfl, rfl, ((unhide H_kV).ne n6).ne n6, ((unhide H_kB).setCell (p := ⟨b10, 0, none⟩) g10 _).setCell (p := ⟨b10, 1, none⟩) g10 _, (fun _ h => nomatch h), (fun h => ⟨((unhide H_k9b h).1.ne n9).ne n9, (unhide H_k9b h).2⟩), (fun _ h => nomatch h), (fun _ => ⟨((unhide HV1).set 0 _).set 1 _, g10⟩), unhide H_kn, (fun _ => rfl), (fun _ => rfl), (fun _ => rfl), (fun _ => ⟨rfl, rfl⟩), (fun _ => rfl), (fun _ => rfl), (fun _ => rfl), (fun _ => ⟨rfl, rfl⟩), (fun _ => ⟨rfl, rfl, rfl⟩), (fun _ => ⟨rfl, rfl, rfl, rfl, rfl, rfl, rfl, rfl, rfl, rfl, rfl, rfl, rfl, rfl, rfl⟩)⟩
  case hend =>
    rintro Lb A W ⟨u0, u1, u2, u3, u4, u5, u6, u7, u8, u9, u10, u11, u12, u13, u14, u15, b9, b10, rfl, rfl, kV, kB, k9, k9b, k10, k10b, kn, c1, c2, c4, c5, c7, c9, c10, c11, c14, kF⟩ hL
    have hl : u0 = true ∧ u1 = true ∧ u2 = true ∧ u3 = true ∧ u4 = true ∧ u5 = true ∧ u6 = true ∧ u7 = true ∧ u8 = true ∧ u9 = true ∧ u10 = true ∧ u11 = true ∧ u12 = true ∧ u13 = true ∧ u14 = true ∧ u15 = true := by
      have h2 := congrArg Array.toList hL
      simpa [List.replicate] using h2
    obtain ⟨rfl, rfl, rfl, rfl, rfl, rfl, rfl, rfl, rfl, rfl, rfl, rfl, rfl, rfl, rfl, rfl⟩ := hl
    exact unhide HQ b9 b10 W kB (k9b rfl).1 (k10b rfl).1

end Go.Proofs.Ytjhldjojkaphkaa
