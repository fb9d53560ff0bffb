/-
  One statement of the program's milling by moves, walked alone: what is left is kept.
-/
import Derived.Test.YtbjljofgpbecbaaPlcK
import Derived.Test.YtbjljofgpbecbaaInv2
namespace Go.Proofs.Ytbjljofgpbecbaa
open Go.ChangeShapes Go.WideShapes Go.ChangeAt Go.RowKit
set_option linter.unusedVariables false
set_option linter.unusedSimpArgs false

noncomputable def reg11b (id : Nat) : Go.Code := match Try.f11.body with | some c => (regOf id c).getD .skip | none => .skip
set_option maxHeartbeats 4000000 in
set_option maxRecDepth 100000 in
theorem mp18 {s0 s1 s2 s3 s4 s5 s6 s7 s8 s11 s12 s15 s16 s17 s18 s19 s20 s21 s22 s23 s24 s25 s26 s27 s28 s29 s30 s31 s32 s33 s34 s35 s36 s37 s38 s39 s40 s41 s42 s43 s44 s45 s46 s47 s48 s49 s50 s51 s52 s53 s54 s55 s56 s57 s58 s59 s60 s61 s62 s63 s64 s65 s66 s67 s68 s69 s70 s71 s72 s73 s74 s75 s76 s77 s78 s79 s80 s81 s82 s83 s84 : Value} {b9 b10 b13 b14 : Nat} {aq acap oq ocap n : Nat} {a0 a1 a2 a3 a5 a6 a7 o0 o1 o2 o3 o5 o6 o7 d0 d1 d2 e0 e1 e2 : Int} {V : World} {K_ : Act → World → Prop}
    (m1 : b14 ≠ b9) (m2 : b14 ≠ b10) (m3 : b13 ≠ b9) (m4 : b13 ≠ b10) (n5 : b9 ≠ b10) (n6 : b10 ≠ b9)
    (HZ : Hid (vb V b14 31 [.int .i64 a0, .int .i64 a1, .int .i64 a2, .int .i64 a3, .slice (some ⟨aq, 0, none⟩) n acap, .int .i64 a5, .int .i64 a6, .int .i64 a7])) (HG : Hid (vb V b13 68 [.int .i64 e0, .int .i64 e1, .int .i64 e2])) (HN : Hid (vb V b9 31 [.int .i64 o0, .int .i64 o1, .int .i64 o2, .int .i64 o3, .slice (some ⟨oq, 0, none⟩) n ocap, .int .i64 o5, .int .i64 o6, .int .i64 o7])) (HT : Hid (vb V b10 68 [.int .i64 d0, .int .i64 d1, .int .i64 d2]))
    (hQ : ∀ (W' : World), vb W' b9 31 [.int .i64 a0, .int .i64 a1, .int .i64 a2, .int .i64 a3, .slice (some ⟨aq, 0, none⟩) n acap, .int .i64 a5, .int .i64 a6, .int .i64 a7] → vb W' b10 68 [.int .i64 e0, .int .i64 e1, .int .i64 e2] → Mq b9 b10 V W' → K_ { tmps := #[s0, s1, s2, s3, s4, s5, s6, s7, s8, .pointer (some ⟨b9, 0, none⟩), .pointer (some ⟨b10, 0, none⟩), s11, s12, .pointer (some ⟨b13, 0, none⟩), .pointer (some ⟨b14, 0, none⟩), s15, s16, s17, s18, s19, s20, s21, s22, s23, s24, s25, s26, s27, s28, s29, s30, s31, s32, s33, s34, s35, s36, s37, s38, s39, s40, s41, s42, s43, s44, s45, s46, s47, s48, s49, s50, s51, s52, s53, s54, s55, s56, s57, s58, s59, s60, s61, s62, s63, s64, s65, s66, s67, s68, s69, s70, s71, s72, s73, s74, s75, s76, s77, s78, s79, s80, .agg #[.int .i64 a0, .int .i64 a1, .int .i64 a2, .int .i64 a3, .slice (some ⟨aq, 0, none⟩) n acap, .int .i64 a5, .int .i64 a6, .int .i64 a7], .agg #[.int .i64 e0, .int .i64 e1, .int .i64 e2], s83, s84], defers := [] } W') :
    Go.Code.wp Try.prog (reg11b 18) (Only K_) { tmps := #[s0, s1, s2, s3, s4, s5, s6, s7, s8, .pointer (some ⟨b9, 0, none⟩), .pointer (some ⟨b10, 0, none⟩), s11, s12, .pointer (some ⟨b13, 0, none⟩), .pointer (some ⟨b14, 0, none⟩), s15, s16, s17, s18, s19, s20, s21, s22, s23, s24, s25, s26, s27, s28, s29, s30, s31, s32, s33, s34, s35, s36, s37, s38, s39, s40, s41, s42, s43, s44, s45, s46, s47, s48, s49, s50, s51, s52, s53, s54, s55, s56, s57, s58, s59, s60, s61, s62, s63, s64, s65, s66, s67, s68, s69, s70, s71, s72, s73, s74, s75, s76, s77, s78, s79, s80, s81, s82, s83, s84], defers := [] } V := by
  have HQ := hide hQ
  clear hQ
  conv => arg 2; whnf
  refine wp_region_inv2 (fun Lb A W => ∃ (u0 u1 u2 u3 : Bool) (dd : Nat), Lb = #[u0, u1, u2, u3] ∧ A = ({ tmps := #[s0, s1, s2, s3, s4, s5, s6, s7, s8, .pointer (some ⟨b9, 0, none⟩), .pointer (some ⟨b10, 0, none⟩), s11, s12, .pointer (some ⟨b13, 0, none⟩), .pointer (some ⟨b14, 0, none⟩), s15, s16, s17, s18, s19, s20, s21, s22, s23, s24, s25, s26, s27, s28, s29, s30, s31, s32, s33, s34, s35, s36, s37, s38, s39, s40, s41, s42, s43, s44, s45, s46, s47, s48, s49, s50, s51, s52, s53, s54, s55, s56, s57, s58, s59, s60, s61, s62, s63, s64, s65, s66, s67, s68, s69, s70, s71, s72, s73, s74, s75, s76, s77, s78, s79, s80, (bif u0 then .agg #[.int .i64 a0, .int .i64 a1, .int .i64 a2, .int .i64 a3, .slice (some ⟨aq, 0, none⟩) n acap, .int .i64 a5, .int .i64 a6, .int .i64 a7] else s81), (bif u1 then .agg #[.int .i64 e0, .int .i64 e1, .int .i64 e2] else s82), s83, s84], defers := [] } : Act) ∧ vb W b14 31 [.int .i64 a0, .int .i64 a1, .int .i64 a2, .int .i64 a3, .slice (some ⟨aq, 0, none⟩) n acap, .int .i64 a5, .int .i64 a6, .int .i64 a7] ∧ vb W b13 68 [.int .i64 e0, .int .i64 e1, .int .i64 e2] ∧ (u2 = false → vb W b9 31 [.int .i64 o0, .int .i64 o1, .int .i64 o2, .int .i64 o3, .slice (some ⟨oq, 0, none⟩) n ocap, .int .i64 o5, .int .i64 o6, .int .i64 o7]) ∧ (u2 = true → vb W b9 31 [.int .i64 a0, .int .i64 a1, .int .i64 a2, .int .i64 a3, .slice (some ⟨aq, 0, none⟩) n acap, .int .i64 a5, .int .i64 a6, .int .i64 a7]) ∧ (u3 = false → vb W b10 68 [.int .i64 d0, .int .i64 d1, .int .i64 d2]) ∧ (u3 = true → vb W b10 68 [.int .i64 e0, .int .i64 e1, .int .i64 e2]) ∧ Mq b9 b10 V W ∧ (u2 = true → u0 = true) ∧ (u3 = true → u0 = true ∧ u1 = true ∧ u2 = true)) (by kernel_rfl) (by kernel_rfl) ?h0 ?hstep ?hend
  case h0 =>
    exact ⟨false, false, false, false, 0, rfl, rfl, unhide HZ, unhide HG, (fun _ => unhide HN), (fun h => nomatch h), (fun _ => unhide HT), (fun h => nomatch h), (Mq.of_bel (Below.drew (Below.refl _ _))), (fun h => nomatch h), (fun h => nomatch h)⟩
  case hstep =>
    rintro Lb A W ⟨u0, u1, u2, u3, dd, rfl, rfl, kZ, kG, k9, k9b, kt, ktb, kM, c2, kF⟩
    refine ⟨?_, ?_, ?_, ?_, trivial⟩
    · intro h0 hd K hK
      have z : u0 = false := h0
      have z3_ : u3 = false := by
        cases hu : u3 with
        | false => rfl
        | true => exact nomatch z.symm.trans ((kF hu).1)
      have z2_ : u2 = false := by
        cases hu : u2 with
        | false => rfl
        | true => exact nomatch z.symm.trans ((c2 hu))
      have H_kZ := hide kZ
      have H_kG := hide kG
      have H_k9 := hide k9
      have H_k9b := hide k9b
      have H_kt := hide kt
      have H_ktb := hide ktb
      have H_kM := hide kM
      have H_c2 := hide c2
      have H_kF := hide kF
      clear kZ kG k9 k9b kt ktb kM c2 kF
      subst z3_
      subst z2_
      subst z
      clear h0 hd
      rw [if_pos (by rfl)]
      have v1 := unhide H_kZ
      have q0 := v1.cell (m := 0) rfl
      have q1 := v1.cell (m := 1) rfl
      have q2 := v1.cell (m := 2) rfl
      have q3 := v1.cell (m := 3) rfl
      have q4 := v1.cell (m := 4) rfl
      have q5 := v1.cell (m := 5) rfl
      have q6 := v1.cell (m := 6) rfl
      have q7 := v1.cell (m := 7) rfl
      clear v1
      go_simp
      exact unhide hK _ _ ⟨true, u1, false, false, dd, rfl, rfl, unhide H_kZ, unhide H_kG, unhide H_k9, (fun h => nomatch h), unhide H_kt, (fun h => nomatch h), unhide H_kM, (fun h => nomatch h), (fun h => nomatch h)⟩
    · intro h0 hd K hK
      have z : u1 = false := h0
      have z3_ : u3 = false := by
        cases hu : u3 with
        | false => rfl
        | true => exact nomatch z.symm.trans ((kF hu).2.1)
      have H_kZ := hide kZ
      have H_kG := hide kG
      have H_k9 := hide k9
      have H_k9b := hide k9b
      have H_kt := hide kt
      have H_ktb := hide ktb
      have H_kM := hide kM
      have H_c2 := hide c2
      have H_kF := hide kF
      clear kZ kG k9 k9b kt ktb kM c2 kF
      subst z3_
      subst z
      clear h0 hd
      rw [if_pos (by rfl)]
      have v1 := unhide H_kG
      have q0 := v1.cell (m := 0) rfl
      have q1 := v1.cell (m := 1) rfl
      have q2 := v1.cell (m := 2) rfl
      clear v1
      go_simp
      exact unhide hK _ _ ⟨u0, true, u2, false, dd, rfl, rfl, unhide H_kZ, unhide H_kG, unhide H_k9, unhide H_k9b, unhide H_kt, (fun h => nomatch h), unhide H_kM, unhide H_c2, (fun h => nomatch h)⟩
    · intro h0 hd K hK
      have z : u2 = false := h0
      have z3_ : u3 = false := by
        cases hu : u3 with
        | false => rfl
        | true => exact nomatch z.symm.trans ((kF hu).2.2)
      have zd : u0 = true := by
        simp [Region.binds] at hd
        simp [hd]
      have H_kZ := hide kZ
      have H_kG := hide kG
      have H_k9 := hide k9
      have H_k9b := hide k9b
      have H_kt := hide kt
      have H_ktb := hide ktb
      have H_kM := hide kM
      have H_c2 := hide c2
      have H_kF := hide kF
      clear kZ kG k9 k9b kt ktb kM c2 kF
      obtain ⟨rfl⟩ := zd
      subst z3_
      subst z
      clear h0 hd
      rw [if_pos (by rfl)]
      have v1 := unhide H_k9 rfl
      have fz := v1.frozen
      have q0 := v1.cell (m := 0) rfl
      have q1 := v1.cell (m := 1) rfl
      have q2 := v1.cell (m := 2) rfl
      have q3 := v1.cell (m := 3) rfl
      have q4 := v1.cell (m := 4) rfl
      have q5 := v1.cell (m := 5) rfl
      have q6 := v1.cell (m := 6) rfl
      have q7 := v1.cell (m := 7) rfl
      clear v1
      go_simp
      exact unhide hK _ _ ⟨true, u1, true, false, dd, rfl, rfl, ((((((((unhide H_kZ).ne m1).ne m1).ne m1).ne m1).ne m1).ne m1).ne m1).ne m1, ((((((((unhide H_kG).ne m3).ne m3).ne m3).ne m3).ne m3).ne m3).ne m3).ne m3, (fun h => nomatch h), (fun _ => ((((((((unhide H_k9 rfl).set 0 _).set 1 _).set 2 _).set 3 _).set 4 _).set 5 _).set 6 _).set 7 _), (fun h => ((((((((unhide H_kt h).ne n6).ne n6).ne n6).ne n6).ne n6).ne n6).ne n6).ne n6), (fun h => nomatch h), Mq.setA (Mq.setA (Mq.setA (Mq.setA (Mq.setA (Mq.setA (Mq.setA (Mq.setA (unhide H_kM) _ _) _ _) _ _) _ _) _ _) _ _) _ _) _ _, (fun _ => rfl), (fun h => nomatch h)⟩
    · intro h0 hd K hK
      have z : u3 = false := h0
      have zd : u1 = true ∧ u2 = true ∧ u0 = true := by
        simp [Region.binds] at hd
        simp_all
      have H_kZ := hide kZ
      have H_kG := hide kG
      have H_k9 := hide k9
      have H_k9b := hide k9b
      have H_kt := hide kt
      have H_ktb := hide ktb
      have H_kM := hide kM
      have H_c2 := hide c2
      have H_kF := hide kF
      clear kZ kG k9 k9b kt ktb kM c2 kF
      obtain ⟨rfl, rfl, rfl⟩ := zd
      subst z
      clear h0 hd
      rw [if_pos (by rfl)]
      have v1 := unhide H_kt rfl
      have fz := v1.frozen
      have q0 := v1.cell (m := 0) rfl
      have q1 := v1.cell (m := 1) rfl
      have q2 := v1.cell (m := 2) rfl
      clear v1
      go_simp
      exact unhide hK _ _ ⟨true, true, true, true, dd, rfl, rfl, (((unhide H_kZ).ne m2).ne m2).ne m2, (((unhide H_kG).ne m4).ne m4).ne m4, (fun h => nomatch h), (fun h => (((unhide H_k9b h).ne n5).ne n5).ne n5), (fun h => nomatch h), (fun _ => (((unhide H_kt rfl).set 0 _).set 1 _).set 2 _), Mq.setB (Mq.setB (Mq.setB (unhide H_kM) _ _) _ _) _ _, (fun _ => rfl), (fun _ => ⟨rfl, rfl, rfl⟩)⟩
  case hend =>
    rintro Lb A W ⟨u0, u1, u2, u3, dd, rfl, rfl, kZ, kG, k9, k9b, kt, ktb, kM, c2, kF⟩ hL
    have hl : u0 = true ∧ u1 = true ∧ u2 = true ∧ u3 = true := by
      have h2 := congrArg Array.toList hL
      simpa [List.replicate] using h2
    obtain ⟨rfl, rfl, rfl, rfl⟩ := hl
    exact unhide HQ W (k9b rfl) (ktb rfl) kM

end Go.Proofs.Ytbjljofgpbecbaa
