/-
  One statement of JobOf, walked alone.
-/
import Derived.Test.YtjhldjojkaphkaaPlcK
import Derived.Test.YtjhldjojkaphkaaInv2
namespace Go.Proofs.Ytjhldjojkaphkaa
open Go.ChangeShapes Go.WideShapes Go.ChangeAt Go.RowKit
set_option linter.unusedVariables false
set_option linter.unusedSimpArgs false

noncomputable def reg9 (id : Nat) : Go.Code := match Try.f7.body with | some c => (regOf id c).getD .skip | none => .skip
set_option maxHeartbeats 4000000 in
set_option maxRecDepth 100000 in
theorem jo7 {s0 s1 s4 s5 s6 s10 s11 s12 s13 s14 s15 s16 s17 s18 s19 s20 s21 s22 s23 s24 s25 s26 s27 s28 s29 s30 s31 s32 : Value} {V : World} {b2 b7 m c n e : Nat} {a0 a1 d0 d1 R : Int} {u v : Option Addr} {K_ : Act → World → Prop} (n70 : b7 ≠ b2) (n71 : b7 ≠ b2 + 1) (n80 : b7 + 1 ≠ b2) (n81 : b7 + 1 ≠ b2 + 1)
    (H7 : Hid (vb V b7 25 [.int .i64 a0, .int .i64 a1, .slice u m c])) (H8 : Hid (vb V (b7 + 1) 25 [.int .i64 d0, .int .i64 d1, .slice v n e])) (H2 : Hid (vb V b2 25 [.int .i64 0, .int .i64 0, .slice none 0 0])) (H3 : Hid (vb V (b2 + 1) 25 [.int .i64 0, .int .i64 0, .slice none 0 0]))
    (hQ : ∀ (y26 y27 y28 : Value) (W' : World), vb W' b2 25 [.int .i64 a0, .int .i64 a1, .slice u m c] → vb W' (b2 + 1) 25 [.int .i64 d0, .int .i64 d1, .slice v n e] → Mq b2 (b2 + 1) V W' → K_ { tmps := #[s0, s1, .pointer (some ⟨b2, 0, none⟩), .pointer (some ⟨b2 + 1, 0, none⟩), .int .i64 (R), s5, s6, .pointer (some ⟨b7, 0, none⟩), .pointer (some ⟨b7 + 1, 0, none⟩), .int .i64 (R), s10, s11, s12, s13, s14, s15, s16, s17, s18, s19, s20, s21, s22, s23, s24, s25, y26, y27, y28, s29, s30, s31, s32], defers := [] } W') :
    Go.Code.wp Try.prog (reg9 7) (Only K_) { tmps := #[s0, s1, .pointer (some ⟨b2, 0, none⟩), .pointer (some ⟨b2 + 1, 0, none⟩), s4, s5, s6, .pointer (some ⟨b7, 0, none⟩), .pointer (some ⟨b7 + 1, 0, none⟩), .int .i64 (R), s10, s11, s12, s13, s14, s15, s16, s17, s18, s19, s20, s21, s22, s23, s24, s25, s26, s27, s28, s29, s30, s31, s32], defers := [] } V := by
  have HQ := hide hQ
  have e0 : b2 ≠ b2 + 1 := by omega
  have e1 : b2 + 1 ≠ b2 := by omega
  clear hQ
  conv => arg 2; whnf
  refine wp_region_inv2 (fun Lb A W => ∃ (u0 u1 u2 u3 u4 u5 : Bool) (dd : Nat), Lb = #[u0, u1, u2, u3, u4, u5] ∧ A = ({ tmps := #[s0, s1, .pointer (some ⟨b2, 0, none⟩), .pointer (some ⟨b2 + 1, 0, none⟩), (bif u5 then .int .i64 (R) else s4), s5, s6, .pointer (some ⟨b7, 0, none⟩), .pointer (some ⟨b7 + 1, 0, none⟩), .int .i64 (R), s10, s11, s12, s13, s14, s15, s16, s17, s18, s19, s20, s21, s22, s23, s24, s25, (bif u0 then .agg #[.int .i64 a0, .int .i64 a1, .slice u m c] else s26), (bif u1 then .agg #[.int .i64 d0, .int .i64 d1, .slice v n e] else s27), (bif u2 then .int .i64 (R) else s28), s29, s30, s31, s32], defers := [] } : Act) ∧ vb W b7 25 [.int .i64 a0, .int .i64 a1, .slice u m c] ∧ vb W (b7 + 1) 25 [.int .i64 d0, .int .i64 d1, .slice v n e] ∧ (u3 = false → vb W b2 25 [.int .i64 0, .int .i64 0, .slice none 0 0]) ∧ (u3 = true → vb W b2 25 [.int .i64 a0, .int .i64 a1, .slice u m c]) ∧ (u4 = false → vb W (b2 + 1) 25 [.int .i64 0, .int .i64 0, .slice none 0 0]) ∧ (u4 = true → vb W (b2 + 1) 25 [.int .i64 d0, .int .i64 d1, .slice v n e]) ∧ Mq b2 (b2 + 1) V W ∧ (u3 = true → u0 = true) ∧ (u4 = true → u1 = true ∧ u3 = true) ∧ (u5 = true → u0 = true ∧ u1 = true ∧ u2 = true ∧ u3 = true ∧ u4 = true)) (by kernel_rfl) (by kernel_rfl) ?h0 ?hstep ?hend
  case h0 =>
    exact ⟨false, false, false, false, false, false, 0, rfl, rfl, unhide H7, unhide H8, (fun _ => unhide H2), (fun h => nomatch h), (fun _ => unhide H3), (fun h => nomatch h), (Mq.of_bel (Below.drew (Below.refl _ _))), (fun h => nomatch h), (fun h => nomatch h), (fun h => nomatch h)⟩
  case hstep =>
    rintro Lb A W ⟨u0, u1, u2, u3, u4, u5, dd, rfl, rfl, k7, k8, k2, k2b, k3, k3b, kM, c3, c4, kF⟩
    refine ⟨?_, ?_, ?_, ?_, ?_, ?_, trivial⟩
    · intro h0 hd K hK
      have z : u0 = false := h0
      have z5_ : u5 = false := by
        cases hu : u5 with
        | false => rfl
        | true => exact nomatch z.symm.trans ((kF hu).1)
      have z3_ : u3 = false := by
        cases hu : u3 with
        | false => rfl
        | true => exact nomatch z.symm.trans ((c3 hu))
      have z4_ : u4 = false := by
        cases hu : u4 with
        | false => rfl
        | true => exact nomatch z.symm.trans ((c3 (c4 hu).2))
      have H_k7 := hide k7
      have H_k8 := hide k8
      have H_k2 := hide k2
      have H_k2b := hide k2b
      have H_k3 := hide k3
      have H_k3b := hide k3b
      have H_kM := hide kM
      have H_c3 := hide c3
      have H_c4 := hide c4
      have H_kF := hide kF
      clear k7 k8 k2 k2b k3 k3b kM c3 c4 kF
      subst z5_
      subst z3_
      subst z4_
      subst z
      clear h0 hd
      rw [if_pos (by rfl)]
      have v1 := unhide H_k7
      have q0 := v1.cell (m := 0) rfl
      have q1 := v1.cell (m := 1) rfl
      have q2 := v1.cell (m := 2) rfl
      clear v1
      go_simp
      exact unhide hK _ _ ⟨true, u1, u2, false, false, false, dd, rfl, rfl, unhide H_k7, unhide H_k8, unhide H_k2, (fun h => nomatch h), unhide H_k3, unhide H_k3b, unhide H_kM, (fun h => nomatch h), (fun h => nomatch h), (fun h => nomatch h)⟩
    · intro h0 hd K hK
      have z : u1 = false := h0
      have z5_ : u5 = false := by
        cases hu : u5 with
        | false => rfl
        | true => exact nomatch z.symm.trans ((kF hu).2.1)
      have z4_ : u4 = false := by
        cases hu : u4 with
        | false => rfl
        | true => exact nomatch z.symm.trans ((c4 hu).1)
      have H_k7 := hide k7
      have H_k8 := hide k8
      have H_k2 := hide k2
      have H_k2b := hide k2b
      have H_k3 := hide k3
      have H_k3b := hide k3b
      have H_kM := hide kM
      have H_c3 := hide c3
      have H_c4 := hide c4
      have H_kF := hide kF
      clear k7 k8 k2 k2b k3 k3b kM c3 c4 kF
      subst z5_
      subst z4_
      subst z
      clear h0 hd
      rw [if_pos (by rfl)]
      have v1 := unhide H_k8
      have q0 := v1.cell (m := 0) rfl
      have q1 := v1.cell (m := 1) rfl
      have q2 := v1.cell (m := 2) rfl
      clear v1
      go_simp
      exact unhide hK _ _ ⟨u0, true, u2, u3, false, false, dd, rfl, rfl, unhide H_k7, unhide H_k8, unhide H_k2, unhide H_k2b, unhide H_k3, (fun h => nomatch h), unhide H_kM, unhide H_c3, (fun h => nomatch h), (fun h => nomatch h)⟩
    · intro h0 hd K hK
      have z : u2 = false := h0
      have z5_ : u5 = false := by
        cases hu : u5 with
        | false => rfl
        | true => exact nomatch z.symm.trans ((kF hu).2.2.1)
      have H_k7 := hide k7
      have H_k8 := hide k8
      have H_k2 := hide k2
      have H_k2b := hide k2b
      have H_k3 := hide k3
      have H_k3b := hide k3b
      have H_kM := hide kM
      have H_c3 := hide c3
      have H_c4 := hide c4
      have H_kF := hide kF
      clear k7 k8 k2 k2b k3 k3b kM c3 c4 kF
      subst z5_
      subst z
      clear h0 hd
      rw [if_pos (by rfl)]
      go_simp
      exact unhide hK _ _ ⟨u0, u1, true, u3, u4, false, dd, rfl, rfl, unhide H_k7, unhide H_k8, unhide H_k2, unhide H_k2b, unhide H_k3, unhide H_k3b, unhide H_kM, unhide H_c3, unhide H_c4, (fun h => nomatch h)⟩
    · intro h0 hd K hK
      have z : u3 = false := h0
      have z5_ : u5 = false := by
        cases hu : u5 with
        | false => rfl
        | true => exact nomatch z.symm.trans ((kF hu).2.2.2.1)
      have z4_ : u4 = false := by
        cases hu : u4 with
        | false => rfl
        | true => exact nomatch z.symm.trans ((c4 hu).2)
      have zd : u0 = true := by
        simp [Region.binds] at hd
        simp [hd]
      have H_k7 := hide k7
      have H_k8 := hide k8
      have H_k2 := hide k2
      have H_k2b := hide k2b
      have H_k3 := hide k3
      have H_k3b := hide k3b
      have H_kM := hide kM
      have H_c3 := hide c3
      have H_c4 := hide c4
      have H_kF := hide kF
      clear k7 k8 k2 k2b k3 k3b kM c3 c4 kF
      obtain ⟨rfl⟩ := zd
      subst z5_
      subst z4_
      subst z
      clear h0 hd
      rw [if_pos (by rfl)]
      have v1 := unhide H_k2 rfl
      have fz := v1.frozen
      have q0 := v1.cell (m := 0) rfl
      have q1 := v1.cell (m := 1) rfl
      have q2 := v1.cell (m := 2) rfl
      clear v1
      go_simp
      exact unhide hK _ _ ⟨true, u1, u2, true, false, false, dd, rfl, rfl, (((unhide H_k7).ne n70).ne n70).ne n70, (((unhide H_k8).ne n80).ne n80).ne n80, (fun h => nomatch h), (fun _ => (((unhide H_k2 rfl).set 0 _).set 1 _).set 2 _), (fun h => (((unhide H_k3 h).ne e1).ne e1).ne e1), (fun h => nomatch h), Mq.setA (Mq.setA (Mq.setA (unhide H_kM) _ _) _ _) _ _, (fun _ => rfl), (fun h => nomatch h), (fun h => nomatch h)⟩
    · intro h0 hd K hK
      have z : u4 = false := h0
      have z5_ : u5 = false := by
        cases hu : u5 with
        | false => rfl
        | true => exact nomatch z.symm.trans ((kF hu).2.2.2.2)
      have zd : u1 = true ∧ u3 = true := by
        simp [Region.binds] at hd
        simp [hd]
      have H_k7 := hide k7
      have H_k8 := hide k8
      have H_k2 := hide k2
      have H_k2b := hide k2b
      have H_k3 := hide k3
      have H_k3b := hide k3b
      have H_kM := hide kM
      have H_c3 := hide c3
      have H_c4 := hide c4
      have H_kF := hide kF
      clear k7 k8 k2 k2b k3 k3b kM c3 c4 kF
      obtain ⟨rfl, rfl⟩ := zd
      subst z5_
      subst z
      clear h0 hd
      rw [if_pos (by rfl)]
      have v1 := unhide H_k3 rfl
      have fz := v1.frozen
      have q0 := v1.cell (m := 0) rfl
      have q1 := v1.cell (m := 1) rfl
      have q2 := v1.cell (m := 2) rfl
      clear v1
      go_simp
      exact unhide hK _ _ ⟨u0, true, u2, true, true, false, dd, rfl, rfl, (((unhide H_k7).ne n71).ne n71).ne n71, (((unhide H_k8).ne n81).ne n81).ne n81, (fun h => nomatch h), (fun h => (((unhide H_k2b h).ne e0).ne e0).ne e0), (fun h => nomatch h), (fun _ => (((unhide H_k3 rfl).set 0 _).set 1 _).set 2 _), Mq.setB (Mq.setB (Mq.setB (unhide H_kM) _ _) _ _) _ _, unhide H_c3, (fun _ => ⟨rfl, rfl⟩), (fun h => nomatch h)⟩
    · intro h0 hd K hK
      have z : u5 = false := h0
      have zd : u2 = true ∧ u4 = true ∧ u0 = true ∧ u1 = true ∧ u3 = true := by
        simp [Region.binds] at hd
        simp_all
      have H_k7 := hide k7
      have H_k8 := hide k8
      have H_k2 := hide k2
      have H_k2b := hide k2b
      have H_k3 := hide k3
      have H_k3b := hide k3b
      have H_kM := hide kM
      have H_c3 := hide c3
      have H_c4 := hide c4
      have H_kF := hide kF
      clear k7 k8 k2 k2b k3 k3b kM c3 c4 kF
      obtain ⟨rfl, rfl, rfl, rfl, rfl⟩ := zd
      subst z
      clear h0 hd
      rw [if_pos (by rfl)]
      go_simp
      exact unhide hK _ _ ⟨true, true, true, true, true, true, dd, rfl, rfl, unhide H_k7, unhide H_k8, unhide H_k2, unhide H_k2b, unhide H_k3, unhide H_k3b, unhide H_kM, (fun _ => rfl), (fun _ => ⟨rfl, rfl⟩), (fun _ => ⟨rfl, rfl, rfl, rfl, rfl⟩)⟩
  case hend =>
    rintro Lb A W ⟨u0, u1, u2, u3, u4, u5, dd, rfl, rfl, k7, k8, k2, k2b, k3, k3b, kM, c3, c4, kF⟩ hL
    have hl : u0 = true ∧ u1 = true ∧ u2 = true ∧ u3 = true ∧ u4 = true ∧ u5 = true := by
      have h2 := congrArg Array.toList hL
      simpa [List.replicate] using h2
    obtain ⟨rfl, rfl, rfl, rfl, rfl, rfl⟩ := hl
    exact unhide HQ _ _ _ W (k2b rfl) (k3b rfl) kM

end Go.Proofs.Ytjhldjojkaphkaa
