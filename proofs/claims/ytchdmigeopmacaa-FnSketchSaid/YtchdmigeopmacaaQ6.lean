/-
  Two statements of the odd sketch, walked alone.
-/
import Derived.Test.YtchdmigeopmacaaOsk
import Derived.Test.YtchdmigeopmacaaQ20
import Derived.Test.YtchdmigeopmacaaSpansOf
namespace Go.Proofs.Ytchdmigeopmacaa
open Go.ChangeShapes Go.WideShapes Go.ChangeAt Go.RowKit
set_option linter.unusedVariables false
set_option linter.unusedSimpArgs false

noncomputable def reg19 (id : Nat) : Go.Code := match Try.f19.body with | some c => (regOf id c).getD .skip | none => .skip

set_option maxHeartbeats 4000000 in
set_option maxRecDepth 100000 in
theorem q6 {s1 s2 s4 s5 s6 s7 s8 s9 s10 s11 s12 s13 s14 s15 s16 s17 s18 s19 s20 s21 s22 s23 s24 s25 s26 s27 s28 s29 s30 s31 s32 s33 s34 s35 s36 s37 s38 s39 s40 s41 s42 s43 s44 s45 s46 s47 s48 s49 s50 s51 s52 s53 s54 s55 s56 s57 s58 s59 s60 s61 s62 s63 s64 s65 s66 s67 s68 s69 s70 s71 s72 s73 s74 s75 s76 s77 s78 s79 s80 s81 s82 s83 s84 : Value} {B g T l cap_ : Nat} {n k : Int} {w W2 : World} {u_ : Option Addr} {L : List Int} {K_ : Act → World → Prop} (hk : k ≤ 90000000) (n1 : 1 ≤ n) (n2 : n ≤ 11) (hl : l ≤ 30)
    (H2 : Hid (Sto B g T n (k + 10003) w (.slice u_ l cap_) l L W2))
    (hQ : ∀ (y20 y21 y22 y23 y24 y25 y26 y27 y28 y29 y30 y31 y32 y33 y34 y35 y36 y37 y38 y39 y40 : Value) (vq : Option Addr) (cq : Nat) (L2 : List Int) (W' : World), Sto B g T n (k + 10015) w (.slice vq (l + 1) cq) (l + 1) L2 W' → K_ { tmps := #[.pointer (some ⟨g, 0, none⟩), s1, s2, .pointer (some ⟨T, 0, none⟩), s4, s5, s6, s7, s8, s9, s10, s11, s12, s13, s14, s15, s16, s17, s18, s19, y20, y21, y22, y23, y24, y25, y26, y27, y28, y29, y30, y31, y32, y33, y34, y35, y36, y37, y38, y39, y40, s41, s42, s43, s44, s45, s46, s47, s48, s49, s50, s51, s52, s53, s54, s55, s56, s57, s58, s59, s60, s61, s62, s63, s64, s65, s66, s67, s68, s69, s70, s71, s72, s73, s74, s75, s76, s77, s78, s79, s80, s81, s82, s83, s84], defers := [] } W') :
    Go.Code.wp Try.prog (reg19 6) (Only K_) { tmps := #[.pointer (some ⟨g, 0, none⟩), s1, s2, .pointer (some ⟨T, 0, none⟩), s4, s5, s6, s7, s8, s9, s10, s11, s12, s13, s14, s15, s16, s17, s18, s19, s20, s21, s22, s23, s24, s25, s26, s27, s28, s29, s30, s31, s32, s33, s34, s35, s36, s37, s38, s39, s40, s41, s42, s43, s44, s45, s46, s47, s48, s49, s50, s51, s52, s53, s54, s55, s56, s57, s58, s59, s60, s61, s62, s63, s64, s65, s66, s67, s68, s69, s70, s71, s72, s73, s74, s75, s76, s77, s78, s79, s80, s81, s82, s83, s84], defers := [] } W2 := by
  obtain ⟨iR, hi1, hy0, hy1, hy2⟩ := info_parts info35s
  have hwn : IntKind.i64.wrap (n + 2) = n + 2 := wrap_i (by omega) (by omega)
  have HQ := hide hQ
  clear hQ
  conv => arg 2; whnf
  refine wp_region_inv (fun Lb A W => ∃ (u0 u1 u2 u3 u4 u5 u6 u7 u8 u9 u10 u11 u12 u13 u14 u15 u16 u17 u18 u19 u20 u21 : Bool) (ra : Int) (rb : Int) (rc : Int) (rd : Int) (q : Nat) (vq : Option Addr) (cq : Nat) (L2 : List Int), Lb = #[u0, u1, u2, u3, u4, u5, u6, u7, u8, u9, u10, u11, u12, u13, u14, u15, u16, u17, u18, u19, u20, u21] ∧ A = ({ tmps := #[.pointer (some ⟨g, 0, none⟩), s1, s2, .pointer (some ⟨T, 0, none⟩), s4, s5, s6, s7, s8, s9, s10, s11, s12, s13, s14, s15, s16, s17, s18, s19, (bif u0 then .pointer (some ⟨T, 1, none⟩) else s20), (bif u1 then .slice u_ l cap_ else s21), (bif u2 then .pointer (some ⟨g, 0, none⟩) else s22), (bif u3 then .int .i64 (ra) else s23), (bif u4 then .int .i64 (ra - 1) else s24), (bif u5 then .pointer (some ⟨g, 0, none⟩) else s25), (bif u6 then .pointer (some ⟨T, 0, none⟩) else s26), (bif u7 then .int .i64 (n) else s27), (bif u8 then .int .i64 (n + 2) else s28), (bif u9 then .int .i64 (rb) else s29), (bif u10 then .int .i64 (rb - 1) else s30), (bif u11 then .pointer (some ⟨g, 0, none⟩) else s31), (bif u12 then .int .i64 (rc) else s32), (bif u13 then .int .i64 (rc - 1) else s33), (bif u14 then .pointer (some ⟨g, 0, none⟩) else s34), (bif u15 then .int .i64 (rd) else s35), (bif u16 then .int .i64 (rd - 1) else s36), (bif u17 then .agg #[.int .i64 (ra - 1), .int .i64 (rb - 1), .int .i64 (rc - 1), .int .i64 (rd - 1)] else s37), (bif u18 then .slice (some ⟨q, 0, none⟩) 1 1 else s38), (bif u19 then .slice vq (l + 1) cq else s39), (bif u20 then .pointer (some ⟨T, 1, none⟩) else s40), s41, s42, s43, s44, s45, s46, s47, s48, s49, s50, s51, s52, s53, s54, s55, s56, s57, s58, s59, s60, s61, s62, s63, s64, s65, s66, s67, s68, s69, s70, s71, s72, s73, s74, s75, s76, s77, s78, s79, s80, s81, s82, s83, s84], defers := [] } : Act) ∧ (u19 = false → Sto B g T n (k + 10003 + (bif u3 then 3 else 0) + (bif u9 then 3 else 0) + (bif u12 then 3 else 0) + (bif u15 then 3 else 0)) w (.slice u_ l cap_) l L W) ∧ (u9 = true → u3 = true) ∧ (u12 = true → u9 = true) ∧ (u15 = true → u12 = true) ∧ (u3 = true → 0 ≤ ra ∧ ra < 12) ∧ (u9 = true → 0 ≤ rb ∧ rb < n + 2) ∧ (u12 = true → 0 ≤ rc ∧ rc < 3) ∧ (u15 = true → 0 ≤ rd ∧ rd < 3) ∧ (u18 = true → u19 = false → W.heap[q]? = some (.cells #[.int .i64 (ra - 1), .int .i64 (rb - 1), .int .i64 (rc - 1), .int .i64 (rd - 1)] 35) ∧ q ≠ g) ∧ (u19 = true → u21 = false → sblk W T n (.slice u_ l cap_) ∧ Sto B g T n (k + 10015) w (.slice vq (l + 1) cq) (l + 1) L2 (W.setCell ⟨T, 1, none⟩ (.slice vq (l + 1) cq))) ∧ (u21 = true → Sto B g T n (k + 10015) w (.slice vq (l + 1) cq) (l + 1) L2 W) ∧ (u1 = true → u0 = true) ∧ (u3 = true → u2 = true) ∧ (u4 = true → u3 = true) ∧ (u7 = true → u6 = true) ∧ (u8 = true → u7 = true) ∧ (u9 = true → u5 = true ∧ u8 = true ∧ u3 = true) ∧ (u10 = true → u9 = true) ∧ (u12 = true → u11 = true ∧ u9 = true) ∧ (u13 = true → u12 = true) ∧ (u15 = true → u14 = true ∧ u12 = true) ∧ (u16 = true → u15 = true) ∧ (u17 = true → u4 = true ∧ u10 = true ∧ u13 = true ∧ u16 = true) ∧ (u18 = true → u17 = true) ∧ (u19 = true → u1 = true ∧ u18 = true) ∧ (u21 = true → u0 = true ∧ u1 = true ∧ u2 = true ∧ u3 = true ∧ u4 = true ∧ u5 = true ∧ u6 = true ∧ u7 = true ∧ u8 = true ∧ u9 = true ∧ u10 = true ∧ u11 = true ∧ u12 = true ∧ u13 = true ∧ u14 = true ∧ u15 = true ∧ u16 = true ∧ u17 = true ∧ u18 = true ∧ u19 = true ∧ u20 = true)) (by kernel_rfl) (by kernel_rfl) ?h0 ?hstep ?hend
  case h0 =>
    exact ⟨false, false, false, false, false, false, false, false, false, false, false, false, false, false, false, false, false, false, false, false, false, false, 0, 0, 0, 0, 0, none, 0, [], rfl, rfl, (fun _ => by have := (unhide H2).drew; simpa using this), (fun h => nomatch h), (fun h => nomatch h), (fun h => nomatch h), (fun h => nomatch h), (fun h => nomatch h), (fun h => nomatch h), (fun h => nomatch h), (fun h => nomatch h), (fun h => nomatch h), (fun h => nomatch h), (fun h => nomatch h), (fun h => nomatch h), (fun h => nomatch h), (fun h => nomatch h), (fun h => nomatch h), (fun h => nomatch h), (fun h => nomatch h), (fun h => nomatch h), (fun h => nomatch h), (fun h => nomatch h), (fun h => nomatch h), (fun h => nomatch h), (fun h => nomatch h), (fun h => nomatch h), (fun h => nomatch h)⟩
  case hstep =>
    rintro Lb A W ⟨u0, u1, u2, u3, u4, u5, u6, u7, u8, u9, u10, u11, u12, u13, u14, u15, u16, u17, u18, u19, u20, u21, ra, rb, rc, rd, q, vq, cq, L2, rfl, rfl, kS, k9, k12, k15, b3, b9, b12, b15, q18, kM, kZ, c1, c3, c4, c7, c8, c9, c10, c12, c13, c15, c16, c17, c18, c19, kF⟩
    refine ⟨?_, ?_, ?_, ?_, ?_, ?_, ?_, ?_, ?_, ?_, ?_, ?_, ?_, ?_, ?_, ?_, ?_, ?_, ?_, ?_, ?_, ?_, trivial⟩
    · intro h0 hd K hK
      have z : u0 = false := h0
      have z21_ : u21 = false := by
        cases hu : u21 with
        | false => rfl
        | true => exact nomatch z.symm.trans ((kF hu).1)
      have H_kS := hide kS
      have H_k9 := hide k9
      have H_k12 := hide k12
      have H_k15 := hide k15
      have H_b3 := hide b3
      have H_b9 := hide b9
      have H_b12 := hide b12
      have H_b15 := hide b15
      have H_q18 := hide q18
      have H_kM := hide kM
      have H_kZ := hide kZ
      have H_c1 := hide c1
      have H_c3 := hide c3
      have H_c4 := hide c4
      have H_c7 := hide c7
      have H_c8 := hide c8
      have H_c9 := hide c9
      have H_c10 := hide c10
      have H_c12 := hide c12
      have H_c13 := hide c13
      have H_c15 := hide c15
      have H_c16 := hide c16
      have H_c17 := hide c17
      have H_c18 := hide c18
      have H_c19 := hide c19
      have H_kF := hide kF
      clear kS k9 k12 k15 b3 b9 b12 b15 q18 kM kZ c1 c3 c4 c7 c8 c9 c10 c12 c13 c15 c16 c17 c18 c19 kF
      subst z21_
      subst z
      clear h0 hd
      rw [if_pos (by rfl)]
      go_simp
      exact unhide hK _ _ ⟨true, u1, u2, u3, u4, u5, u6, u7, u8, u9, u10, u11, u12, u13, u14, u15, u16, u17, u18, u19, u20, false, ra, rb, rc, rd, q, vq, cq, L2, rfl, rfl, unhide H_kS, unhide H_k9, unhide H_k12, unhide H_k15, unhide H_b3, unhide H_b9, unhide H_b12, unhide H_b15, unhide H_q18, unhide H_kM, (fun h => nomatch h), (fun h => rfl), unhide H_c3, unhide H_c4, unhide H_c7, unhide H_c8, unhide H_c9, unhide H_c10, unhide H_c12, unhide H_c13, unhide H_c15, unhide H_c16, unhide H_c17, unhide H_c18, unhide H_c19, (fun h => nomatch h)⟩
    · intro h0 hd K hK
      have z : u1 = false := h0
      have z21_ : u21 = false := by
        cases hu : u21 with
        | false => rfl
        | true => exact nomatch z.symm.trans ((kF hu).2.1)
      have z19_ : u19 = false := by
        cases hu : u19 with
        | false => rfl
        | true => exact nomatch z.symm.trans ((c19 hu).1)
      have zd : u0 = true := by
        simp [Region.binds] at hd
        simp [hd]
      have H_kS := hide kS
      have H_k9 := hide k9
      have H_k12 := hide k12
      have H_k15 := hide k15
      have H_b3 := hide b3
      have H_b9 := hide b9
      have H_b12 := hide b12
      have H_b15 := hide b15
      have H_q18 := hide q18
      have H_kM := hide kM
      have H_kZ := hide kZ
      have H_c1 := hide c1
      have H_c3 := hide c3
      have H_c4 := hide c4
      have H_c7 := hide c7
      have H_c8 := hide c8
      have H_c9 := hide c9
      have H_c10 := hide c10
      have H_c12 := hide c12
      have H_c13 := hide c13
      have H_c15 := hide c15
      have H_c16 := hide c16
      have H_c17 := hide c17
      have H_c18 := hide c18
      have H_c19 := hide c19
      have H_kF := hide kF
      clear kS k9 k12 k15 b3 b9 b12 b15 q18 kM kZ c1 c3 c4 c7 c8 c9 c10 c12 c13 c15 c16 c17 c18 c19 kF
      obtain ⟨rfl⟩ := zd
      subst z21_
      subst z19_
      subst z
      clear h0 hd
      rw [if_pos (by rfl)]
      have cc := (unhide H_kS rfl).tb.c1
      go_simp
      exact unhide hK _ _ ⟨true, true, u2, u3, u4, u5, u6, u7, u8, u9, u10, u11, u12, u13, u14, u15, u16, u17, u18, false, u20, false, ra, rb, rc, rd, q, vq, cq, L2, rfl, rfl, unhide H_kS, unhide H_k9, unhide H_k12, unhide H_k15, unhide H_b3, unhide H_b9, unhide H_b12, unhide H_b15, unhide H_q18, unhide H_kM, (fun h => nomatch h), (fun _ => rfl), unhide H_c3, unhide H_c4, unhide H_c7, unhide H_c8, unhide H_c9, unhide H_c10, unhide H_c12, unhide H_c13, unhide H_c15, unhide H_c16, unhide H_c17, unhide H_c18, (fun h => nomatch h), (fun h => nomatch h)⟩
    · intro h0 hd K hK
      have z : u2 = false := h0
      have z21_ : u21 = false := by
        cases hu : u21 with
        | false => rfl
        | true => exact nomatch z.symm.trans ((kF hu).2.2.1)
      have H_kS := hide kS
      have H_k9 := hide k9
      have H_k12 := hide k12
      have H_k15 := hide k15
      have H_b3 := hide b3
      have H_b9 := hide b9
      have H_b12 := hide b12
      have H_b15 := hide b15
      have H_q18 := hide q18
      have H_kM := hide kM
      have H_kZ := hide kZ
      have H_c1 := hide c1
      have H_c3 := hide c3
      have H_c4 := hide c4
      have H_c7 := hide c7
      have H_c8 := hide c8
      have H_c9 := hide c9
      have H_c10 := hide c10
      have H_c12 := hide c12
      have H_c13 := hide c13
      have H_c15 := hide c15
      have H_c16 := hide c16
      have H_c17 := hide c17
      have H_c18 := hide c18
      have H_c19 := hide c19
      have H_kF := hide kF
      clear kS k9 k12 k15 b3 b9 b12 b15 q18 kM kZ c1 c3 c4 c7 c8 c9 c10 c12 c13 c15 c16 c17 c18 c19 kF
      subst z21_
      subst z
      clear h0 hd
      rw [if_pos (by rfl)]
      go_simp
      exact unhide hK _ _ ⟨u0, u1, true, u3, u4, u5, u6, u7, u8, u9, u10, u11, u12, u13, u14, u15, u16, u17, u18, u19, u20, false, ra, rb, rc, rd, q, vq, cq, L2, rfl, rfl, unhide H_kS, unhide H_k9, unhide H_k12, unhide H_k15, unhide H_b3, unhide H_b9, unhide H_b12, unhide H_b15, unhide H_q18, unhide H_kM, (fun h => nomatch h), unhide H_c1, (fun h => rfl), unhide H_c4, unhide H_c7, unhide H_c8, unhide H_c9, unhide H_c10, unhide H_c12, unhide H_c13, unhide H_c15, unhide H_c16, unhide H_c17, unhide H_c18, unhide H_c19, (fun h => nomatch h)⟩
    · intro h0 hd K hK
      have z : u3 = false := h0
      have z21_ : u21 = false := by
        cases hu : u21 with
        | false => rfl
        | true => exact nomatch z.symm.trans ((kF hu).2.2.2.1)
      have z4_ : u4 = false := by
        cases hu : u4 with
        | false => rfl
        | true => exact nomatch z.symm.trans ((c4 hu))
      have z9_ : u9 = false := by
        cases hu : u9 with
        | false => rfl
        | true => exact nomatch z.symm.trans ((c9 hu).2.2)
      have z12_ : u12 = false := by
        cases hu : u12 with
        | false => rfl
        | true => exact nomatch z.symm.trans ((c9 (c12 hu).2).2.2)
      have z15_ : u15 = false := by
        cases hu : u15 with
        | false => rfl
        | true => exact nomatch z.symm.trans ((c9 (c12 (c15 hu).2).2).2.2)
      have z17_ : u17 = false := by
        cases hu : u17 with
        | false => rfl
        | true => exact nomatch z.symm.trans ((c4 (c17 hu).1))
      have z18_ : u18 = false := by
        cases hu : u18 with
        | false => rfl
        | true => exact nomatch z.symm.trans ((c4 (c17 (c18 hu)).1))
      have z19_ : u19 = false := by
        cases hu : u19 with
        | false => rfl
        | true => exact nomatch z.symm.trans ((c4 (c17 (c18 (c19 hu).2)).1))
      have zd : u2 = true := by
        simp [Region.binds] at hd
        simp [hd]
      have H_kS := hide kS
      have H_k9 := hide k9
      have H_k12 := hide k12
      have H_k15 := hide k15
      have H_b3 := hide b3
      have H_b9 := hide b9
      have H_b12 := hide b12
      have H_b15 := hide b15
      have H_q18 := hide q18
      have H_kM := hide kM
      have H_kZ := hide kZ
      have H_c1 := hide c1
      have H_c3 := hide c3
      have H_c4 := hide c4
      have H_c7 := hide c7
      have H_c8 := hide c8
      have H_c9 := hide c9
      have H_c10 := hide c10
      have H_c12 := hide c12
      have H_c13 := hide c13
      have H_c15 := hide c15
      have H_c16 := hide c16
      have H_c17 := hide c17
      have H_c18 := hide c18
      have H_c19 := hide c19
      have H_kF := hide kF
      clear kS k9 k12 k15 b3 b9 b12 b15 q18 kM kZ c1 c3 c4 c7 c8 c9 c10 c12 c13 c15 c16 c17 c18 c19 kF
      obtain ⟨rfl⟩ := zd
      subst z21_
      subst z4_
      subst z9_
      subst z12_
      subst z15_
      subst z17_
      subst z18_
      subst z19_
      subst z
      clear h0 hd
      rw [if_pos (by rfl)]
      have HSS : Sto B g T n (k + 10003) w (.slice u_ l cap_) l L W := by have := unhide H_kS rfl; simp  at this; exact this.up (by omega)
      go_simp
      refine (next_any (k := (k + 10003)) 12 HSS.so (by omega) (by omega) (by omega)).mono ?_
      rintro e w8 ⟨r, rfl, hr1, hr2, hs, mv⟩
      exact unhide hK _ _ ⟨u0, u1, true, true, false, u5, u6, u7, u8, false, u10, u11, false, u13, u14, false, u16, false, false, false, u20, false, r, rb, rc, rd, q, vq, cq, L2, rfl, rfl, (fun _ => by have := HSS.step hs mv; simp ; exact this.up (by omega)), (fun h => nomatch h), (fun h => nomatch h), (fun h => nomatch h), (fun _ => by omega), (fun h => nomatch h), (fun h => nomatch h), (fun h => nomatch h), (fun h => nomatch h), (fun h => nomatch h), (fun h => nomatch h), unhide H_c1, (fun _ => rfl), (fun h => nomatch h), unhide H_c7, unhide H_c8, (fun h => nomatch h), unhide H_c10, (fun h => nomatch h), unhide H_c13, (fun h => nomatch h), unhide H_c16, (fun h => nomatch h), (fun h => nomatch h), (fun h => nomatch h), (fun h => nomatch h)⟩
    · intro h0 hd K hK
      have z : u4 = false := h0
      have z21_ : u21 = false := by
        cases hu : u21 with
        | false => rfl
        | true => exact nomatch z.symm.trans ((kF hu).2.2.2.2.1)
      have zd : u3 = true := by
        simp [Region.binds] at hd
        simp [hd]
      have H_kS := hide kS
      have H_k9 := hide k9
      have H_k12 := hide k12
      have H_k15 := hide k15
      have H_b3 := hide b3
      have H_b9 := hide b9
      have H_b12 := hide b12
      have H_b15 := hide b15
      have H_q18 := hide q18
      have H_kM := hide kM
      have H_kZ := hide kZ
      have H_c1 := hide c1
      have H_c3 := hide c3
      have H_c4 := hide c4
      have H_c7 := hide c7
      have H_c8 := hide c8
      have H_c9 := hide c9
      have H_c10 := hide c10
      have H_c12 := hide c12
      have H_c13 := hide c13
      have H_c15 := hide c15
      have H_c16 := hide c16
      have H_c17 := hide c17
      have H_c18 := hide c18
      have H_c19 := hide c19
      have H_kF := hide kF
      clear kS k9 k12 k15 b3 b9 b12 b15 q18 kM kZ c1 c3 c4 c7 c8 c9 c10 c12 c13 c15 c16 c17 c18 c19 kF
      obtain ⟨rfl⟩ := zd
      subst z21_
      subst z
      clear h0 hd
      rw [if_pos (by rfl)]
      have hb := unhide H_b3 rfl
      go_simp
      try rw [wrap_i (show -9223372036854775808 ≤ ra - 1 by omega) (show ra - 1 ≤ 9223372036854775807 by omega)]
      exact unhide hK _ _ ⟨u0, u1, u2, true, true, u5, u6, u7, u8, u9, u10, u11, u12, u13, u14, u15, u16, u17, u18, u19, u20, false, ra, rb, rc, rd, q, vq, cq, L2, rfl, rfl, unhide H_kS, unhide H_k9, unhide H_k12, unhide H_k15, unhide H_b3, unhide H_b9, unhide H_b12, unhide H_b15, unhide H_q18, unhide H_kM, (fun h => nomatch h), unhide H_c1, unhide H_c3, (fun _ => rfl), unhide H_c7, unhide H_c8, (fun h => ⟨(unhide H_c9 h).1, (unhide H_c9 h).2.1, rfl⟩), unhide H_c10, unhide H_c12, unhide H_c13, unhide H_c15, unhide H_c16, (fun h => ⟨rfl, (unhide H_c17 h).2.1, (unhide H_c17 h).2.2.1, (unhide H_c17 h).2.2.2⟩), unhide H_c18, unhide H_c19, (fun h => nomatch h)⟩
    · intro h0 hd K hK
      have z : u5 = false := h0
      have z21_ : u21 = false := by
        cases hu : u21 with
        | false => rfl
        | true => exact nomatch z.symm.trans ((kF hu).2.2.2.2.2.1)
      have H_kS := hide kS
      have H_k9 := hide k9
      have H_k12 := hide k12
      have H_k15 := hide k15
      have H_b3 := hide b3
      have H_b9 := hide b9
      have H_b12 := hide b12
      have H_b15 := hide b15
      have H_q18 := hide q18
      have H_kM := hide kM
      have H_kZ := hide kZ
      have H_c1 := hide c1
      have H_c3 := hide c3
      have H_c4 := hide c4
      have H_c7 := hide c7
      have H_c8 := hide c8
      have H_c9 := hide c9
      have H_c10 := hide c10
      have H_c12 := hide c12
      have H_c13 := hide c13
      have H_c15 := hide c15
      have H_c16 := hide c16
      have H_c17 := hide c17
      have H_c18 := hide c18
      have H_c19 := hide c19
      have H_kF := hide kF
      clear kS k9 k12 k15 b3 b9 b12 b15 q18 kM kZ c1 c3 c4 c7 c8 c9 c10 c12 c13 c15 c16 c17 c18 c19 kF
      subst z21_
      subst z
      clear h0 hd
      rw [if_pos (by rfl)]
      go_simp
      exact unhide hK _ _ ⟨u0, u1, u2, u3, u4, true, u6, u7, u8, u9, u10, u11, u12, u13, u14, u15, u16, u17, u18, u19, u20, false, ra, rb, rc, rd, q, vq, cq, L2, rfl, rfl, unhide H_kS, unhide H_k9, unhide H_k12, unhide H_k15, unhide H_b3, unhide H_b9, unhide H_b12, unhide H_b15, unhide H_q18, unhide H_kM, (fun h => nomatch h), unhide H_c1, unhide H_c3, unhide H_c4, unhide H_c7, unhide H_c8, (fun h => ⟨rfl, (unhide H_c9 h).2.1, (unhide H_c9 h).2.2⟩), unhide H_c10, unhide H_c12, unhide H_c13, unhide H_c15, unhide H_c16, unhide H_c17, unhide H_c18, unhide H_c19, (fun h => nomatch h)⟩
    · intro h0 hd K hK
      have z : u6 = false := h0
      have z21_ : u21 = false := by
        cases hu : u21 with
        | false => rfl
        | true => exact nomatch z.symm.trans ((kF hu).2.2.2.2.2.2.1)
      have H_kS := hide kS
      have H_k9 := hide k9
      have H_k12 := hide k12
      have H_k15 := hide k15
      have H_b3 := hide b3
      have H_b9 := hide b9
      have H_b12 := hide b12
      have H_b15 := hide b15
      have H_q18 := hide q18
      have H_kM := hide kM
      have H_kZ := hide kZ
      have H_c1 := hide c1
      have H_c3 := hide c3
      have H_c4 := hide c4
      have H_c7 := hide c7
      have H_c8 := hide c8
      have H_c9 := hide c9
      have H_c10 := hide c10
      have H_c12 := hide c12
      have H_c13 := hide c13
      have H_c15 := hide c15
      have H_c16 := hide c16
      have H_c17 := hide c17
      have H_c18 := hide c18
      have H_c19 := hide c19
      have H_kF := hide kF
      clear kS k9 k12 k15 b3 b9 b12 b15 q18 kM kZ c1 c3 c4 c7 c8 c9 c10 c12 c13 c15 c16 c17 c18 c19 kF
      subst z21_
      subst z
      clear h0 hd
      rw [if_pos (by rfl)]
      go_simp
      exact unhide hK _ _ ⟨u0, u1, u2, u3, u4, u5, true, u7, u8, u9, u10, u11, u12, u13, u14, u15, u16, u17, u18, u19, u20, false, ra, rb, rc, rd, q, vq, cq, L2, rfl, rfl, unhide H_kS, unhide H_k9, unhide H_k12, unhide H_k15, unhide H_b3, unhide H_b9, unhide H_b12, unhide H_b15, unhide H_q18, unhide H_kM, (fun h => nomatch h), unhide H_c1, unhide H_c3, unhide H_c4, (fun h => rfl), unhide H_c8, unhide H_c9, unhide H_c10, unhide H_c12, unhide H_c13, unhide H_c15, unhide H_c16, unhide H_c17, unhide H_c18, unhide H_c19, (fun h => nomatch h)⟩
    · intro h0 hd K hK
      have z : u7 = false := h0
      have z21_ : u21 = false := by
        cases hu : u21 with
        | false => rfl
        | true => exact nomatch z.symm.trans ((kF hu).2.2.2.2.2.2.2.1)
      have z19_ : u19 = false := by
        cases hu : u19 with
        | false => rfl
        | true => exact nomatch z.symm.trans ((c8 (c9 (c10 (c17 (c18 (c19 hu).2)).2.1)).2.1))
      have zd : u6 = true := by
        simp [Region.binds] at hd
        simp [hd]
      have H_kS := hide kS
      have H_k9 := hide k9
      have H_k12 := hide k12
      have H_k15 := hide k15
      have H_b3 := hide b3
      have H_b9 := hide b9
      have H_b12 := hide b12
      have H_b15 := hide b15
      have H_q18 := hide q18
      have H_kM := hide kM
      have H_kZ := hide kZ
      have H_c1 := hide c1
      have H_c3 := hide c3
      have H_c4 := hide c4
      have H_c7 := hide c7
      have H_c8 := hide c8
      have H_c9 := hide c9
      have H_c10 := hide c10
      have H_c12 := hide c12
      have H_c13 := hide c13
      have H_c15 := hide c15
      have H_c16 := hide c16
      have H_c17 := hide c17
      have H_c18 := hide c18
      have H_c19 := hide c19
      have H_kF := hide kF
      clear kS k9 k12 k15 b3 b9 b12 b15 q18 kM kZ c1 c3 c4 c7 c8 c9 c10 c12 c13 c15 c16 c17 c18 c19 kF
      obtain ⟨rfl⟩ := zd
      subst z21_
      subst z19_
      subst z
      clear h0 hd
      rw [if_pos (by rfl)]
      have cc := (unhide H_kS rfl).tb.c0
      go_simp
      exact unhide hK _ _ ⟨u0, u1, u2, u3, u4, u5, true, true, u8, u9, u10, u11, u12, u13, u14, u15, u16, u17, u18, false, u20, false, ra, rb, rc, rd, q, vq, cq, L2, rfl, rfl, unhide H_kS, unhide H_k9, unhide H_k12, unhide H_k15, unhide H_b3, unhide H_b9, unhide H_b12, unhide H_b15, unhide H_q18, unhide H_kM, (fun h => nomatch h), unhide H_c1, unhide H_c3, unhide H_c4, (fun _ => rfl), (fun h => rfl), unhide H_c9, unhide H_c10, unhide H_c12, unhide H_c13, unhide H_c15, unhide H_c16, unhide H_c17, unhide H_c18, (fun h => nomatch h), (fun h => nomatch h)⟩
    · intro h0 hd K hK
      have z : u8 = false := h0
      have z21_ : u21 = false := by
        cases hu : u21 with
        | false => rfl
        | true => exact nomatch z.symm.trans ((kF hu).2.2.2.2.2.2.2.2.1)
      have zd : u7 = true := by
        simp [Region.binds] at hd
        simp [hd]
      have H_kS := hide kS
      have H_k9 := hide k9
      have H_k12 := hide k12
      have H_k15 := hide k15
      have H_b3 := hide b3
      have H_b9 := hide b9
      have H_b12 := hide b12
      have H_b15 := hide b15
      have H_q18 := hide q18
      have H_kM := hide kM
      have H_kZ := hide kZ
      have H_c1 := hide c1
      have H_c3 := hide c3
      have H_c4 := hide c4
      have H_c7 := hide c7
      have H_c8 := hide c8
      have H_c9 := hide c9
      have H_c10 := hide c10
      have H_c12 := hide c12
      have H_c13 := hide c13
      have H_c15 := hide c15
      have H_c16 := hide c16
      have H_c17 := hide c17
      have H_c18 := hide c18
      have H_c19 := hide c19
      have H_kF := hide kF
      clear kS k9 k12 k15 b3 b9 b12 b15 q18 kM kZ c1 c3 c4 c7 c8 c9 c10 c12 c13 c15 c16 c17 c18 c19 kF
      obtain ⟨rfl⟩ := zd
      subst z21_
      subst z
      clear h0 hd
      rw [if_pos (by rfl)]
      go_simp
      try rw [hwn]
      exact unhide hK _ _ ⟨u0, u1, u2, u3, u4, u5, u6, true, true, u9, u10, u11, u12, u13, u14, u15, u16, u17, u18, u19, u20, false, ra, rb, rc, rd, q, vq, cq, L2, rfl, rfl, unhide H_kS, unhide H_k9, unhide H_k12, unhide H_k15, unhide H_b3, unhide H_b9, unhide H_b12, unhide H_b15, unhide H_q18, unhide H_kM, (fun h => nomatch h), unhide H_c1, unhide H_c3, unhide H_c4, unhide H_c7, (fun _ => rfl), (fun h => ⟨(unhide H_c9 h).1, rfl, (unhide H_c9 h).2.2⟩), unhide H_c10, unhide H_c12, unhide H_c13, unhide H_c15, unhide H_c16, unhide H_c17, unhide H_c18, unhide H_c19, (fun h => nomatch h)⟩
    · intro h0 hd K hK
      have z : u9 = false := h0
      have z21_ : u21 = false := by
        cases hu : u21 with
        | false => rfl
        | true => exact nomatch z.symm.trans ((kF hu).2.2.2.2.2.2.2.2.2.1)
      have z10_ : u10 = false := by
        cases hu : u10 with
        | false => rfl
        | true => exact nomatch z.symm.trans ((c10 hu))
      have z12_ : u12 = false := by
        cases hu : u12 with
        | false => rfl
        | true => exact nomatch z.symm.trans ((c12 hu).2)
      have z15_ : u15 = false := by
        cases hu : u15 with
        | false => rfl
        | true => exact nomatch z.symm.trans ((c12 (c15 hu).2).2)
      have z17_ : u17 = false := by
        cases hu : u17 with
        | false => rfl
        | true => exact nomatch z.symm.trans ((c10 (c17 hu).2.1))
      have z18_ : u18 = false := by
        cases hu : u18 with
        | false => rfl
        | true => exact nomatch z.symm.trans ((c10 (c17 (c18 hu)).2.1))
      have z19_ : u19 = false := by
        cases hu : u19 with
        | false => rfl
        | true => exact nomatch z.symm.trans ((c10 (c17 (c18 (c19 hu).2)).2.1))
      have zd : u5 = true ∧ u8 = true ∧ u3 = true := by
        simp [Region.binds] at hd
        simp [hd]
      have H_kS := hide kS
      have H_k9 := hide k9
      have H_k12 := hide k12
      have H_k15 := hide k15
      have H_b3 := hide b3
      have H_b9 := hide b9
      have H_b12 := hide b12
      have H_b15 := hide b15
      have H_q18 := hide q18
      have H_kM := hide kM
      have H_kZ := hide kZ
      have H_c1 := hide c1
      have H_c3 := hide c3
      have H_c4 := hide c4
      have H_c7 := hide c7
      have H_c8 := hide c8
      have H_c9 := hide c9
      have H_c10 := hide c10
      have H_c12 := hide c12
      have H_c13 := hide c13
      have H_c15 := hide c15
      have H_c16 := hide c16
      have H_c17 := hide c17
      have H_c18 := hide c18
      have H_c19 := hide c19
      have H_kF := hide kF
      clear kS k9 k12 k15 b3 b9 b12 b15 q18 kM kZ c1 c3 c4 c7 c8 c9 c10 c12 c13 c15 c16 c17 c18 c19 kF
      obtain ⟨rfl, rfl, rfl⟩ := zd
      subst z21_
      subst z10_
      subst z12_
      subst z15_
      subst z17_
      subst z18_
      subst z19_
      subst z
      clear h0 hd
      rw [if_pos (by rfl)]
      have HSS : Sto B g T n (k + 10006) w (.slice u_ l cap_) l L W := by have := unhide H_kS rfl; simp  at this; exact this.up (by omega)
      go_simp
      refine (next_any (k := (k + 10006)) (n + 2) HSS.so (by omega) (by omega) (by omega)).mono ?_
      rintro e w8 ⟨r, rfl, hr1, hr2, hs, mv⟩
      exact unhide hK _ _ ⟨u0, u1, u2, true, u4, true, u6, u7, true, true, false, u11, false, u13, u14, false, u16, false, false, false, u20, false, ra, r, rc, rd, q, vq, cq, L2, rfl, rfl, (fun _ => by have := HSS.step hs mv; simp ; exact this.up (by omega)), (fun _ => rfl), (fun h => nomatch h), (fun h => nomatch h), unhide H_b3, (fun _ => by omega), (fun h => nomatch h), (fun h => nomatch h), (fun h => nomatch h), (fun h => nomatch h), (fun h => nomatch h), unhide H_c1, unhide H_c3, (fun h => rfl), unhide H_c7, unhide H_c8, (fun _ => ⟨rfl, rfl, rfl⟩), (fun h => nomatch h), (fun h => nomatch h), unhide H_c13, (fun h => nomatch h), unhide H_c16, (fun h => nomatch h), (fun h => nomatch h), (fun h => nomatch h), (fun h => nomatch h)⟩
    · intro h0 hd K hK
      have z : u10 = false := h0
      have z21_ : u21 = false := by
        cases hu : u21 with
        | false => rfl
        | true => exact nomatch z.symm.trans ((kF hu).2.2.2.2.2.2.2.2.2.2.1)
      have zd : u9 = true := by
        simp [Region.binds] at hd
        simp [hd]
      have H_kS := hide kS
      have H_k9 := hide k9
      have H_k12 := hide k12
      have H_k15 := hide k15
      have H_b3 := hide b3
      have H_b9 := hide b9
      have H_b12 := hide b12
      have H_b15 := hide b15
      have H_q18 := hide q18
      have H_kM := hide kM
      have H_kZ := hide kZ
      have H_c1 := hide c1
      have H_c3 := hide c3
      have H_c4 := hide c4
      have H_c7 := hide c7
      have H_c8 := hide c8
      have H_c9 := hide c9
      have H_c10 := hide c10
      have H_c12 := hide c12
      have H_c13 := hide c13
      have H_c15 := hide c15
      have H_c16 := hide c16
      have H_c17 := hide c17
      have H_c18 := hide c18
      have H_c19 := hide c19
      have H_kF := hide kF
      clear kS k9 k12 k15 b3 b9 b12 b15 q18 kM kZ c1 c3 c4 c7 c8 c9 c10 c12 c13 c15 c16 c17 c18 c19 kF
      obtain ⟨rfl⟩ := zd
      subst z21_
      subst z
      clear h0 hd
      rw [if_pos (by rfl)]
      have hb := unhide H_b9 rfl
      go_simp
      try rw [wrap_i (show -9223372036854775808 ≤ rb - 1 by omega) (show rb - 1 ≤ 9223372036854775807 by omega)]
      exact unhide hK _ _ ⟨u0, u1, u2, u3, u4, u5, u6, u7, u8, true, true, u11, u12, u13, u14, u15, u16, u17, u18, u19, u20, false, ra, rb, rc, rd, q, vq, cq, L2, rfl, rfl, unhide H_kS, unhide H_k9, unhide H_k12, unhide H_k15, unhide H_b3, unhide H_b9, unhide H_b12, unhide H_b15, unhide H_q18, unhide H_kM, (fun h => nomatch h), unhide H_c1, unhide H_c3, unhide H_c4, unhide H_c7, unhide H_c8, unhide H_c9, (fun _ => rfl), (fun h => ⟨(unhide H_c12 h).1, rfl⟩), unhide H_c13, unhide H_c15, unhide H_c16, (fun h => ⟨(unhide H_c17 h).1, rfl, (unhide H_c17 h).2.2.1, (unhide H_c17 h).2.2.2⟩), unhide H_c18, unhide H_c19, (fun h => nomatch h)⟩
    · intro h0 hd K hK
      have z : u11 = false := h0
      have z21_ : u21 = false := by
        cases hu : u21 with
        | false => rfl
        | true => exact nomatch z.symm.trans ((kF hu).2.2.2.2.2.2.2.2.2.2.2.1)
      have H_kS := hide kS
      have H_k9 := hide k9
      have H_k12 := hide k12
      have H_k15 := hide k15
      have H_b3 := hide b3
      have H_b9 := hide b9
      have H_b12 := hide b12
      have H_b15 := hide b15
      have H_q18 := hide q18
      have H_kM := hide kM
      have H_kZ := hide kZ
      have H_c1 := hide c1
      have H_c3 := hide c3
      have H_c4 := hide c4
      have H_c7 := hide c7
      have H_c8 := hide c8
      have H_c9 := hide c9
      have H_c10 := hide c10
      have H_c12 := hide c12
      have H_c13 := hide c13
      have H_c15 := hide c15
      have H_c16 := hide c16
      have H_c17 := hide c17
      have H_c18 := hide c18
      have H_c19 := hide c19
      have H_kF := hide kF
      clear kS k9 k12 k15 b3 b9 b12 b15 q18 kM kZ c1 c3 c4 c7 c8 c9 c10 c12 c13 c15 c16 c17 c18 c19 kF
      subst z21_
      subst z
      clear h0 hd
      rw [if_pos (by rfl)]
      go_simp
      exact unhide hK _ _ ⟨u0, u1, u2, u3, u4, u5, u6, u7, u8, u9, u10, true, u12, u13, u14, u15, u16, u17, u18, u19, u20, false, ra, rb, rc, rd, q, vq, cq, L2, rfl, rfl, unhide H_kS, unhide H_k9, unhide H_k12, unhide H_k15, unhide H_b3, unhide H_b9, unhide H_b12, unhide H_b15, unhide H_q18, unhide H_kM, (fun h => nomatch h), unhide H_c1, unhide H_c3, unhide H_c4, unhide H_c7, unhide H_c8, unhide H_c9, unhide H_c10, (fun h => ⟨rfl, (unhide H_c12 h).2⟩), unhide H_c13, unhide H_c15, unhide H_c16, unhide H_c17, unhide H_c18, unhide H_c19, (fun h => nomatch h)⟩
    · intro h0 hd K hK
      have z : u12 = false := h0
      have z21_ : u21 = false := by
        cases hu : u21 with
        | false => rfl
        | true => exact nomatch z.symm.trans ((kF hu).2.2.2.2.2.2.2.2.2.2.2.2.1)
      have z13_ : u13 = false := by
        cases hu : u13 with
        | false => rfl
        | true => exact nomatch z.symm.trans ((c13 hu))
      have z15_ : u15 = false := by
        cases hu : u15 with
        | false => rfl
        | true => exact nomatch z.symm.trans ((c15 hu).2)
      have z17_ : u17 = false := by
        cases hu : u17 with
        | false => rfl
        | true => exact nomatch z.symm.trans ((c13 (c17 hu).2.2.1))
      have z18_ : u18 = false := by
        cases hu : u18 with
        | false => rfl
        | true => exact nomatch z.symm.trans ((c13 (c17 (c18 hu)).2.2.1))
      have z19_ : u19 = false := by
        cases hu : u19 with
        | false => rfl
        | true => exact nomatch z.symm.trans ((c13 (c17 (c18 (c19 hu).2)).2.2.1))
      have zd : u11 = true ∧ u9 = true := by
        simp [Region.binds] at hd
        simp [hd]
      have H_kS := hide kS
      have H_k9 := hide k9
      have H_k12 := hide k12
      have H_k15 := hide k15
      have H_b3 := hide b3
      have H_b9 := hide b9
      have H_b12 := hide b12
      have H_b15 := hide b15
      have H_q18 := hide q18
      have H_kM := hide kM
      have H_kZ := hide kZ
      have H_c1 := hide c1
      have H_c3 := hide c3
      have H_c4 := hide c4
      have H_c7 := hide c7
      have H_c8 := hide c8
      have H_c9 := hide c9
      have H_c10 := hide c10
      have H_c12 := hide c12
      have H_c13 := hide c13
      have H_c15 := hide c15
      have H_c16 := hide c16
      have H_c17 := hide c17
      have H_c18 := hide c18
      have H_c19 := hide c19
      have H_kF := hide kF
      clear kS k9 k12 k15 b3 b9 b12 b15 q18 kM kZ c1 c3 c4 c7 c8 c9 c10 c12 c13 c15 c16 c17 c18 c19 kF
      obtain ⟨rfl, rfl⟩ := zd
      subst z21_
      subst z13_
      subst z15_
      subst z17_
      subst z18_
      subst z19_
      subst z
      clear h0 hd
      rw [if_pos (by rfl)]
      have e3 := unhide H_k9 rfl
      have HSS : Sto B g T n (k + 10009) w (.slice u_ l cap_) l L W := by have := unhide H_kS rfl; simp [e3] at this; exact this.up (by omega)
      have E_e3 := hide e3
      clear e3
      go_simp
      refine (next_any (k := (k + 10009)) 3 HSS.so (by omega) (by omega) (by omega)).mono ?_
      rintro e w8 ⟨r, rfl, hr1, hr2, hs, mv⟩
      exact unhide hK _ _ ⟨u0, u1, u2, u3, u4, u5, u6, u7, u8, true, u10, true, true, false, u14, false, u16, false, false, false, u20, false, ra, rb, r, rd, q, vq, cq, L2, rfl, rfl, (fun _ => by have := HSS.step hs mv; simp [unhide E_e3]; exact this.up (by omega)), unhide H_k9, (fun _ => rfl), (fun h => nomatch h), unhide H_b3, unhide H_b9, (fun _ => by omega), (fun h => nomatch h), (fun h => nomatch h), (fun h => nomatch h), (fun h => nomatch h), unhide H_c1, unhide H_c3, unhide H_c4, unhide H_c7, unhide H_c8, unhide H_c9, (fun h => rfl), (fun _ => ⟨rfl, rfl⟩), (fun h => nomatch h), (fun h => nomatch h), unhide H_c16, (fun h => nomatch h), (fun h => nomatch h), (fun h => nomatch h), (fun h => nomatch h)⟩
    · intro h0 hd K hK
      have z : u13 = false := h0
      have z21_ : u21 = false := by
        cases hu : u21 with
        | false => rfl
        | true => exact nomatch z.symm.trans ((kF hu).2.2.2.2.2.2.2.2.2.2.2.2.2.1)
      have zd : u12 = true := by
        simp [Region.binds] at hd
        simp [hd]
      have H_kS := hide kS
      have H_k9 := hide k9
      have H_k12 := hide k12
      have H_k15 := hide k15
      have H_b3 := hide b3
      have H_b9 := hide b9
      have H_b12 := hide b12
      have H_b15 := hide b15
      have H_q18 := hide q18
      have H_kM := hide kM
      have H_kZ := hide kZ
      have H_c1 := hide c1
      have H_c3 := hide c3
      have H_c4 := hide c4
      have H_c7 := hide c7
      have H_c8 := hide c8
      have H_c9 := hide c9
      have H_c10 := hide c10
      have H_c12 := hide c12
      have H_c13 := hide c13
      have H_c15 := hide c15
      have H_c16 := hide c16
      have H_c17 := hide c17
      have H_c18 := hide c18
      have H_c19 := hide c19
      have H_kF := hide kF
      clear kS k9 k12 k15 b3 b9 b12 b15 q18 kM kZ c1 c3 c4 c7 c8 c9 c10 c12 c13 c15 c16 c17 c18 c19 kF
      obtain ⟨rfl⟩ := zd
      subst z21_
      subst z
      clear h0 hd
      rw [if_pos (by rfl)]
      have hb := unhide H_b12 rfl
      go_simp
      try rw [wrap_i (show -9223372036854775808 ≤ rc - 1 by omega) (show rc - 1 ≤ 9223372036854775807 by omega)]
      exact unhide hK _ _ ⟨u0, u1, u2, u3, u4, u5, u6, u7, u8, u9, u10, u11, true, true, u14, u15, u16, u17, u18, u19, u20, false, ra, rb, rc, rd, q, vq, cq, L2, rfl, rfl, unhide H_kS, unhide H_k9, unhide H_k12, unhide H_k15, unhide H_b3, unhide H_b9, unhide H_b12, unhide H_b15, unhide H_q18, unhide H_kM, (fun h => nomatch h), unhide H_c1, unhide H_c3, unhide H_c4, unhide H_c7, unhide H_c8, unhide H_c9, unhide H_c10, unhide H_c12, (fun _ => rfl), (fun h => ⟨(unhide H_c15 h).1, rfl⟩), unhide H_c16, (fun h => ⟨(unhide H_c17 h).1, (unhide H_c17 h).2.1, rfl, (unhide H_c17 h).2.2.2⟩), unhide H_c18, unhide H_c19, (fun h => nomatch h)⟩
    · intro h0 hd K hK
      have z : u14 = false := h0
      have z21_ : u21 = false := by
        cases hu : u21 with
        | false => rfl
        | true => exact nomatch z.symm.trans ((kF hu).2.2.2.2.2.2.2.2.2.2.2.2.2.2.1)
      have H_kS := hide kS
      have H_k9 := hide k9
      have H_k12 := hide k12
      have H_k15 := hide k15
      have H_b3 := hide b3
      have H_b9 := hide b9
      have H_b12 := hide b12
      have H_b15 := hide b15
      have H_q18 := hide q18
      have H_kM := hide kM
      have H_kZ := hide kZ
      have H_c1 := hide c1
      have H_c3 := hide c3
      have H_c4 := hide c4
      have H_c7 := hide c7
      have H_c8 := hide c8
      have H_c9 := hide c9
      have H_c10 := hide c10
      have H_c12 := hide c12
      have H_c13 := hide c13
      have H_c15 := hide c15
      have H_c16 := hide c16
      have H_c17 := hide c17
      have H_c18 := hide c18
      have H_c19 := hide c19
      have H_kF := hide kF
      clear kS k9 k12 k15 b3 b9 b12 b15 q18 kM kZ c1 c3 c4 c7 c8 c9 c10 c12 c13 c15 c16 c17 c18 c19 kF
      subst z21_
      subst z
      clear h0 hd
      rw [if_pos (by rfl)]
      go_simp
      exact unhide hK _ _ ⟨u0, u1, u2, u3, u4, u5, u6, u7, u8, u9, u10, u11, u12, u13, true, u15, u16, u17, u18, u19, u20, false, ra, rb, rc, rd, q, vq, cq, L2, rfl, rfl, unhide H_kS, unhide H_k9, unhide H_k12, unhide H_k15, unhide H_b3, unhide H_b9, unhide H_b12, unhide H_b15, unhide H_q18, unhide H_kM, (fun h => nomatch h), unhide H_c1, unhide H_c3, unhide H_c4, unhide H_c7, unhide H_c8, unhide H_c9, unhide H_c10, unhide H_c12, unhide H_c13, (fun h => ⟨rfl, (unhide H_c15 h).2⟩), unhide H_c16, unhide H_c17, unhide H_c18, unhide H_c19, (fun h => nomatch h)⟩
    · intro h0 hd K hK
      have z : u15 = false := h0
      have z21_ : u21 = false := by
        cases hu : u21 with
        | false => rfl
        | true => exact nomatch z.symm.trans ((kF hu).2.2.2.2.2.2.2.2.2.2.2.2.2.2.2.1)
      have z16_ : u16 = false := by
        cases hu : u16 with
        | false => rfl
        | true => exact nomatch z.symm.trans ((c16 hu))
      have z17_ : u17 = false := by
        cases hu : u17 with
        | false => rfl
        | true => exact nomatch z.symm.trans ((c16 (c17 hu).2.2.2))
      have z18_ : u18 = false := by
        cases hu : u18 with
        | false => rfl
        | true => exact nomatch z.symm.trans ((c16 (c17 (c18 hu)).2.2.2))
      have z19_ : u19 = false := by
        cases hu : u19 with
        | false => rfl
        | true => exact nomatch z.symm.trans ((c16 (c17 (c18 (c19 hu).2)).2.2.2))
      have zd : u14 = true ∧ u12 = true := by
        simp [Region.binds] at hd
        simp [hd]
      have H_kS := hide kS
      have H_k9 := hide k9
      have H_k12 := hide k12
      have H_k15 := hide k15
      have H_b3 := hide b3
      have H_b9 := hide b9
      have H_b12 := hide b12
      have H_b15 := hide b15
      have H_q18 := hide q18
      have H_kM := hide kM
      have H_kZ := hide kZ
      have H_c1 := hide c1
      have H_c3 := hide c3
      have H_c4 := hide c4
      have H_c7 := hide c7
      have H_c8 := hide c8
      have H_c9 := hide c9
      have H_c10 := hide c10
      have H_c12 := hide c12
      have H_c13 := hide c13
      have H_c15 := hide c15
      have H_c16 := hide c16
      have H_c17 := hide c17
      have H_c18 := hide c18
      have H_c19 := hide c19
      have H_kF := hide kF
      clear kS k9 k12 k15 b3 b9 b12 b15 q18 kM kZ c1 c3 c4 c7 c8 c9 c10 c12 c13 c15 c16 c17 c18 c19 kF
      obtain ⟨rfl, rfl⟩ := zd
      subst z21_
      subst z16_
      subst z17_
      subst z18_
      subst z19_
      subst z
      clear h0 hd
      rw [if_pos (by rfl)]
      have e9 := unhide H_k12 rfl
      have e3 := unhide H_k9 e9
      have HSS : Sto B g T n (k + 10012) w (.slice u_ l cap_) l L W := by have := unhide H_kS rfl; simp [e9, e3] at this; exact this.up (by omega)
      have E_e9 := hide e9
      clear e9
      have E_e3 := hide e3
      clear e3
      go_simp
      refine (next_any (k := (k + 10012)) 3 HSS.so (by omega) (by omega) (by omega)).mono ?_
      rintro e w8 ⟨r, rfl, hr1, hr2, hs, mv⟩
      exact unhide hK _ _ ⟨u0, u1, u2, u3, u4, u5, u6, u7, u8, u9, u10, u11, true, u13, true, true, false, false, false, false, u20, false, ra, rb, rc, r, q, vq, cq, L2, rfl, rfl, (fun _ => by have := HSS.step hs mv; simp [unhide E_e9, unhide E_e3]; exact this.up (by omega)), unhide H_k9, unhide H_k12, (fun _ => rfl), unhide H_b3, unhide H_b9, unhide H_b12, (fun _ => by omega), (fun h => nomatch h), (fun h => nomatch h), (fun h => nomatch h), unhide H_c1, unhide H_c3, unhide H_c4, unhide H_c7, unhide H_c8, unhide H_c9, unhide H_c10, unhide H_c12, (fun h => rfl), (fun _ => ⟨rfl, rfl⟩), (fun h => nomatch h), (fun h => nomatch h), (fun h => nomatch h), (fun h => nomatch h), (fun h => nomatch h)⟩
    · intro h0 hd K hK
      have z : u16 = false := h0
      have z21_ : u21 = false := by
        cases hu : u21 with
        | false => rfl
        | true => exact nomatch z.symm.trans ((kF hu).2.2.2.2.2.2.2.2.2.2.2.2.2.2.2.2.1)
      have zd : u15 = true := by
        simp [Region.binds] at hd
        simp [hd]
      have H_kS := hide kS
      have H_k9 := hide k9
      have H_k12 := hide k12
      have H_k15 := hide k15
      have H_b3 := hide b3
      have H_b9 := hide b9
      have H_b12 := hide b12
      have H_b15 := hide b15
      have H_q18 := hide q18
      have H_kM := hide kM
      have H_kZ := hide kZ
      have H_c1 := hide c1
      have H_c3 := hide c3
      have H_c4 := hide c4
      have H_c7 := hide c7
      have H_c8 := hide c8
      have H_c9 := hide c9
      have H_c10 := hide c10
      have H_c12 := hide c12
      have H_c13 := hide c13
      have H_c15 := hide c15
      have H_c16 := hide c16
      have H_c17 := hide c17
      have H_c18 := hide c18
      have H_c19 := hide c19
      have H_kF := hide kF
      clear kS k9 k12 k15 b3 b9 b12 b15 q18 kM kZ c1 c3 c4 c7 c8 c9 c10 c12 c13 c15 c16 c17 c18 c19 kF
      obtain ⟨rfl⟩ := zd
      subst z21_
      subst z
      clear h0 hd
      rw [if_pos (by rfl)]
      have hb := unhide H_b15 rfl
      go_simp
      try rw [wrap_i (show -9223372036854775808 ≤ rd - 1 by omega) (show rd - 1 ≤ 9223372036854775807 by omega)]
      exact unhide hK _ _ ⟨u0, u1, u2, u3, u4, u5, u6, u7, u8, u9, u10, u11, u12, u13, u14, true, true, u17, u18, u19, u20, false, ra, rb, rc, rd, q, vq, cq, L2, rfl, rfl, unhide H_kS, unhide H_k9, unhide H_k12, unhide H_k15, unhide H_b3, unhide H_b9, unhide H_b12, unhide H_b15, unhide H_q18, unhide H_kM, (fun h => nomatch h), unhide H_c1, unhide H_c3, unhide H_c4, unhide H_c7, unhide H_c8, unhide H_c9, unhide H_c10, unhide H_c12, unhide H_c13, unhide H_c15, (fun _ => rfl), (fun h => ⟨(unhide H_c17 h).1, (unhide H_c17 h).2.1, (unhide H_c17 h).2.2.1, rfl⟩), unhide H_c18, unhide H_c19, (fun h => nomatch h)⟩
    · intro h0 hd K hK
      have z : u17 = false := h0
      have z21_ : u21 = false := by
        cases hu : u21 with
        | false => rfl
        | true => exact nomatch z.symm.trans ((kF hu).2.2.2.2.2.2.2.2.2.2.2.2.2.2.2.2.2.1)
      have zd : u4 = true ∧ u10 = true ∧ u13 = true ∧ u16 = true := by
        simp [Region.binds] at hd
        simp [hd]
      have H_kS := hide kS
      have H_k9 := hide k9
      have H_k12 := hide k12
      have H_k15 := hide k15
      have H_b3 := hide b3
      have H_b9 := hide b9
      have H_b12 := hide b12
      have H_b15 := hide b15
      have H_q18 := hide q18
      have H_kM := hide kM
      have H_kZ := hide kZ
      have H_c1 := hide c1
      have H_c3 := hide c3
      have H_c4 := hide c4
      have H_c7 := hide c7
      have H_c8 := hide c8
      have H_c9 := hide c9
      have H_c10 := hide c10
      have H_c12 := hide c12
      have H_c13 := hide c13
      have H_c15 := hide c15
      have H_c16 := hide c16
      have H_c17 := hide c17
      have H_c18 := hide c18
      have H_c19 := hide c19
      have H_kF := hide kF
      clear kS k9 k12 k15 b3 b9 b12 b15 q18 kM kZ c1 c3 c4 c7 c8 c9 c10 c12 c13 c15 c16 c17 c18 c19 kF
      obtain ⟨rfl, rfl, rfl, rfl⟩ := zd
      subst z21_
      subst z
      clear h0 hd
      rw [if_pos (by rfl)]
      go_simp
      exact unhide hK _ _ ⟨u0, u1, u2, u3, true, u5, u6, u7, u8, u9, true, u11, u12, true, u14, u15, true, true, u18, u19, u20, false, ra, rb, rc, rd, q, vq, cq, L2, rfl, rfl, unhide H_kS, unhide H_k9, unhide H_k12, unhide H_k15, unhide H_b3, unhide H_b9, unhide H_b12, unhide H_b15, unhide H_q18, unhide H_kM, (fun h => nomatch h), unhide H_c1, unhide H_c3, unhide H_c4, unhide H_c7, unhide H_c8, unhide H_c9, unhide H_c10, unhide H_c12, unhide H_c13, unhide H_c15, unhide H_c16, (fun _ => ⟨rfl, rfl, rfl, rfl⟩), (fun h => rfl), unhide H_c19, (fun h => nomatch h)⟩
    · intro h0 hd K hK
      have z : u18 = false := h0
      have z21_ : u21 = false := by
        cases hu : u21 with
        | false => rfl
        | true => exact nomatch z.symm.trans ((kF hu).2.2.2.2.2.2.2.2.2.2.2.2.2.2.2.2.2.2.1)
      have z19_ : u19 = false := by
        cases hu : u19 with
        | false => rfl
        | true => exact nomatch z.symm.trans ((c19 hu).2)
      have zd : u17 = true := by
        simp [Region.binds] at hd
        simp [hd]
      have H_kS := hide kS
      have H_k9 := hide k9
      have H_k12 := hide k12
      have H_k15 := hide k15
      have H_b3 := hide b3
      have H_b9 := hide b9
      have H_b12 := hide b12
      have H_b15 := hide b15
      have H_q18 := hide q18
      have H_kM := hide kM
      have H_kZ := hide kZ
      have H_c1 := hide c1
      have H_c3 := hide c3
      have H_c4 := hide c4
      have H_c7 := hide c7
      have H_c8 := hide c8
      have H_c9 := hide c9
      have H_c10 := hide c10
      have H_c12 := hide c12
      have H_c13 := hide c13
      have H_c15 := hide c15
      have H_c16 := hide c16
      have H_c17 := hide c17
      have H_c18 := hide c18
      have H_c19 := hide c19
      have H_kF := hide kF
      clear kS k9 k12 k15 b3 b9 b12 b15 q18 kM kZ c1 c3 c4 c7 c8 c9 c10 c12 c13 c15 c16 c17 c18 c19 kF
      obtain ⟨rfl⟩ := zd
      subst z21_
      subst z19_
      subst z
      clear h0 hd
      rw [if_pos (by rfl)]
      go_simp
      exact unhide hK _ _ ⟨u0, u1, u2, u3, u4, u5, u6, u7, u8, u9, u10, u11, u12, u13, u14, u15, u16, true, true, false, u20, false, ra, rb, rc, rd, W.heap.size, vq, cq, L2, rfl, rfl, (fun _ => (unhide H_kS rfl).alloc _), unhide H_k9, unhide H_k12, unhide H_k15, unhide H_b3, unhide H_b9, unhide H_b12, unhide H_b15, (fun _ _ => ⟨heap_alloc_new W _, by have := (unhide H_kS rfl).so.lt; omega⟩), (fun h => nomatch h), (fun h => nomatch h), unhide H_c1, unhide H_c3, unhide H_c4, unhide H_c7, unhide H_c8, unhide H_c9, unhide H_c10, unhide H_c12, unhide H_c13, unhide H_c15, unhide H_c16, unhide H_c17, (fun _ => rfl), (fun h => nomatch h), (fun h => nomatch h)⟩
    · intro h0 hd K hK
      have z : u19 = false := h0
      have z21_ : u21 = false := by
        cases hu : u21 with
        | false => rfl
        | true => exact nomatch z.symm.trans ((kF hu).2.2.2.2.2.2.2.2.2.2.2.2.2.2.2.2.2.2.2.1)
      have zd : u1 = true ∧ u18 = true := by
        simp [Region.binds] at hd
        simp [hd]
      have H_kS := hide kS
      have H_k9 := hide k9
      have H_k12 := hide k12
      have H_k15 := hide k15
      have H_b3 := hide b3
      have H_b9 := hide b9
      have H_b12 := hide b12
      have H_b15 := hide b15
      have H_q18 := hide q18
      have H_kM := hide kM
      have H_kZ := hide kZ
      have H_c1 := hide c1
      have H_c3 := hide c3
      have H_c4 := hide c4
      have H_c7 := hide c7
      have H_c8 := hide c8
      have H_c9 := hide c9
      have H_c10 := hide c10
      have H_c12 := hide c12
      have H_c13 := hide c13
      have H_c15 := hide c15
      have H_c16 := hide c16
      have H_c17 := hide c17
      have H_c18 := hide c18
      have H_c19 := hide c19
      have H_kF := hide kF
      clear kS k9 k12 k15 b3 b9 b12 b15 q18 kM kZ c1 c3 c4 c7 c8 c9 c10 c12 c13 c15 c16 c17 c18 c19 kF
      obtain ⟨rfl, rfl⟩ := zd
      subst z21_
      subst z
      clear h0 hd
      rw [if_pos (by rfl)]
      have HS0 := unhide H_kS rfl
      have hq0 := unhide H_q18 rfl rfl
      have hszz := HS0.mv.size
      have lrs := HS0.res.lt
      refine wp_append_own W (.tmp 21) (.tmp 38) 23 (by rfl) (w.heap.size + 1) 35 iR _ 4 32 Try.underlying23 hi1 hy0 hy1 hy2 rfl (by omega) (.slice u_ l cap_) l (L.map (Value.int .i64)) (by rfl) HS0.row ⟨q, 0, none⟩ 1 1 ([ra - 1, rb - 1, rc - 1, rd - 1].map (Value.int .i64)) (by rfl) (by rfl) (blk_cells hq0.1) ints_one (by unfold maxLen; omega) (by omega) (by omega) ?_
      intro v' wz hown' hgrow _
      have R := own_more (wr := W) (news := [ra - 1, rb - 1, rc - 1, rd - 1]) (Below.refl _ _) (by omega) HS0.row hown' hgrow
      have AP := HS0.app (Below.refl _ _) R.1 hgrow
      obtain ⟨vz, cz, rfl, _⟩ := R.1.form
      exact unhide hK _ _ ⟨u0, true, u2, u3, u4, u5, u6, u7, u8, u9, u10, u11, u12, u13, u14, u15, u16, u17, true, true, u20, false, ra, rb, rc, rd, q, vz, cz, (L ++ [ra - 1, rb - 1, rc - 1, rd - 1]), rfl, rfl, (fun h => nomatch h), unhide H_k9, unhide H_k12, unhide H_k15, unhide H_b3, unhide H_b9, unhide H_b12, unhide H_b15, (fun _ h => nomatch h), (fun _ _ => ⟨AP.1, AP.2.2.up (by have h3 : ∀ b : Bool, (bif b then (3 : Int) else 0) ≤ 3 := (by intro b; cases b <;> simp); have := h3 u3; have := h3 u9; have := h3 u12; have := h3 u15; omega)⟩), (fun h => nomatch h), unhide H_c1, unhide H_c3, unhide H_c4, unhide H_c7, unhide H_c8, unhide H_c9, unhide H_c10, unhide H_c12, unhide H_c13, unhide H_c15, unhide H_c16, unhide H_c17, unhide H_c18, (fun _ => ⟨rfl, rfl⟩), (fun h => nomatch h)⟩
    · intro h0 hd K hK
      have z : u20 = false := h0
      have z21_ : u21 = false := by
        cases hu : u21 with
        | false => rfl
        | true => exact nomatch z.symm.trans ((kF hu).2.2.2.2.2.2.2.2.2.2.2.2.2.2.2.2.2.2.2.2)
      have H_kS := hide kS
      have H_k9 := hide k9
      have H_k12 := hide k12
      have H_k15 := hide k15
      have H_b3 := hide b3
      have H_b9 := hide b9
      have H_b12 := hide b12
      have H_b15 := hide b15
      have H_q18 := hide q18
      have H_kM := hide kM
      have H_kZ := hide kZ
      have H_c1 := hide c1
      have H_c3 := hide c3
      have H_c4 := hide c4
      have H_c7 := hide c7
      have H_c8 := hide c8
      have H_c9 := hide c9
      have H_c10 := hide c10
      have H_c12 := hide c12
      have H_c13 := hide c13
      have H_c15 := hide c15
      have H_c16 := hide c16
      have H_c17 := hide c17
      have H_c18 := hide c18
      have H_c19 := hide c19
      have H_kF := hide kF
      clear kS k9 k12 k15 b3 b9 b12 b15 q18 kM kZ c1 c3 c4 c7 c8 c9 c10 c12 c13 c15 c16 c17 c18 c19 kF
      subst z21_
      subst z
      clear h0 hd
      rw [if_pos (by rfl)]
      go_simp
      exact unhide hK _ _ ⟨u0, u1, u2, u3, u4, u5, u6, u7, u8, u9, u10, u11, u12, u13, u14, u15, u16, u17, u18, u19, true, false, ra, rb, rc, rd, q, vq, cq, L2, rfl, rfl, unhide H_kS, unhide H_k9, unhide H_k12, unhide H_k15, unhide H_b3, unhide H_b9, unhide H_b12, unhide H_b15, unhide H_q18, unhide H_kM, (fun h => nomatch h), unhide H_c1, unhide H_c3, unhide H_c4, unhide H_c7, unhide H_c8, unhide H_c9, unhide H_c10, unhide H_c12, unhide H_c13, unhide H_c15, unhide H_c16, unhide H_c17, unhide H_c18, unhide H_c19, (fun h => nomatch h)⟩
    · intro h0 hd K hK
      have z : u21 = false := h0
      have zd : u19 = true ∧ u20 = true ∧ u0 = true ∧ u1 = true ∧ u2 = true ∧ u3 = true ∧ u4 = true ∧ u5 = true ∧ u6 = true ∧ u7 = true ∧ u8 = true ∧ u9 = true ∧ u10 = true ∧ u11 = true ∧ u12 = true ∧ u13 = true ∧ u14 = true ∧ u15 = true ∧ u16 = true ∧ u17 = true ∧ u18 = true := by
        simp [Region.binds] at hd
        simp [hd]
      have H_kS := hide kS
      have H_k9 := hide k9
      have H_k12 := hide k12
      have H_k15 := hide k15
      have H_b3 := hide b3
      have H_b9 := hide b9
      have H_b12 := hide b12
      have H_b15 := hide b15
      have H_q18 := hide q18
      have H_kM := hide kM
      have H_kZ := hide kZ
      have H_c1 := hide c1
      have H_c3 := hide c3
      have H_c4 := hide c4
      have H_c7 := hide c7
      have H_c8 := hide c8
      have H_c9 := hide c9
      have H_c10 := hide c10
      have H_c12 := hide c12
      have H_c13 := hide c13
      have H_c15 := hide c15
      have H_c16 := hide c16
      have H_c17 := hide c17
      have H_c18 := hide c18
      have H_c19 := hide c19
      have H_kF := hide kF
      clear kS k9 k12 k15 b3 b9 b12 b15 q18 kM kZ c1 c3 c4 c7 c8 c9 c10 c12 c13 c15 c16 c17 c18 c19 kF
      obtain ⟨rfl, rfl, rfl, rfl, rfl, rfl, rfl, rfl, rfl, rfl, rfl, rfl, rfl, rfl, rfl, rfl, rfl, rfl, rfl, rfl, rfl⟩ := zd
      subst z
      clear h0 hd
      rw [if_pos (by rfl)]
      have cc := (unhide H_kM rfl rfl).1.c1
      have cf := (unhide H_kM rfl rfl).1.frz 1
      have clt := cell_lt cc
      go_simp
      exact unhide hK _ _ ⟨true, true, true, true, true, true, true, true, true, true, true, true, true, true, true, true, true, true, true, true, true, true, ra, rb, rc, rd, q, vq, cq, L2, rfl, rfl, (fun h => nomatch h), unhide H_k9, unhide H_k12, unhide H_k15, unhide H_b3, unhide H_b9, unhide H_b12, unhide H_b15, (fun _ h => nomatch h), (fun _ h => nomatch h), (fun _ => (unhide H_kM rfl rfl).2), (fun _ => rfl), (fun _ => rfl), (fun _ => rfl), (fun _ => rfl), (fun _ => rfl), (fun _ => ⟨rfl, rfl, rfl⟩), (fun _ => rfl), (fun _ => ⟨rfl, rfl⟩), (fun _ => rfl), (fun _ => ⟨rfl, rfl⟩), (fun _ => rfl), (fun _ => ⟨rfl, rfl, rfl, rfl⟩), (fun _ => rfl), (fun _ => ⟨rfl, rfl⟩), (fun _ => ⟨rfl, rfl, rfl, rfl, rfl, rfl, rfl, rfl, rfl, rfl, rfl, rfl, rfl, rfl, rfl, rfl, rfl, rfl, rfl, rfl, rfl⟩)⟩
  case hend =>
    rintro Lb A W ⟨u0, u1, u2, u3, u4, u5, u6, u7, u8, u9, u10, u11, u12, u13, u14, u15, u16, u17, u18, u19, u20, u21, ra, rb, rc, rd, q, vq, cq, L2, rfl, rfl, kS, k9, k12, k15, b3, b9, b12, b15, q18, kM, kZ, c1, c3, c4, c7, c8, c9, c10, c12, c13, c15, c16, c17, c18, c19, kF⟩ hL
    have hl : u0 = true ∧ u1 = true ∧ u2 = true ∧ u3 = true ∧ u4 = true ∧ u5 = true ∧ u6 = true ∧ u7 = true ∧ u8 = true ∧ u9 = true ∧ u10 = true ∧ u11 = true ∧ u12 = true ∧ u13 = true ∧ u14 = true ∧ u15 = true ∧ u16 = true ∧ u17 = true ∧ u18 = true ∧ u19 = true ∧ u20 = true ∧ u21 = true := by
      have h2 := congrArg Array.toList hL
      simpa [List.replicate] using h2
    obtain ⟨rfl, rfl, rfl, rfl, rfl, rfl, rfl, rfl, rfl, rfl, rfl, rfl, rfl, rfl, rfl, rfl, rfl, rfl, rfl, rfl, rfl, rfl⟩ := hl
    exact unhide HQ _ _ _ _ _ _ _ _ _ _ _ _ _ _ _ _ _ _ _ _ _ _ _ _ _ (kZ rfl)
end Go.Proofs.Ytchdmigeopmacaa
