/-
  One statement of the odd sketch, walked alone.
-/
import Derived.Test.YtchdmigeopmacaaQ6
namespace Go.Proofs.Ytchdmigeopmacaa
open Go.ChangeShapes Go.WideShapes Go.ChangeAt Go.RowKit
set_option linter.unusedVariables false
set_option linter.unusedSimpArgs false

set_option maxHeartbeats 4000000 in
set_option maxRecDepth 100000 in
theorem q11 {s1 s2 s4 s5 s6 s7 s8 s9 s10 s11 s12 s13 s14 s15 s16 s17 s18 s19 s20 s21 s22 s23 s24 s25 s26 s27 s28 s29 s30 s31 s32 s33 s34 s35 s36 s37 s38 s39 s40 s41 s42 s43 s44 s45 s46 s47 s48 s49 s50 s51 s52 s53 s54 s55 s56 s57 s58 s59 s60 s61 s62 s63 s64 s65 s66 s67 s68 s69 s70 s71 s72 s73 s74 s75 s76 s77 s78 s79 s80 s81 s82 s83 s84 : Value} {B g T l cap_ : Nat} {n k : Int} {w W2 : World} {u_ : Option Addr} {L : List Int} {K_ : Act → World → Prop} (hk : k ≤ 90000000) (n1 : 1 ≤ n) (n2 : n ≤ 11) (hl : l ≤ 30)
    (H2 : Hid (Sto B g T n (k + 10003) w (.slice u_ l cap_) l L W2))
    (hQ : ∀ (y62 y63 y64 y65 y66 y67 y68 y69 y70 y71 y72 y73 y74 : Value) (vq : Option Addr) (cq : Nat) (L2 : List Int) (W' : World), Sto B g T n (k + 10015) w (.slice vq (l + 1) cq) (l + 1) L2 W' → K_ { tmps := #[.pointer (some ⟨g, 0, none⟩), s1, s2, .pointer (some ⟨T, 0, none⟩), s4, s5, s6, s7, s8, s9, s10, s11, s12, s13, s14, s15, s16, s17, s18, s19, s20, s21, s22, s23, s24, s25, s26, s27, s28, s29, s30, s31, s32, s33, s34, s35, s36, s37, s38, s39, s40, s41, s42, s43, s44, s45, s46, s47, s48, s49, s50, s51, s52, s53, s54, s55, s56, s57, s58, s59, s60, s61, y62, y63, y64, y65, y66, y67, y68, y69, y70, y71, y72, y73, y74, s75, s76, s77, s78, s79, s80, s81, s82, s83, s84], defers := [] } W') :
    Go.Code.wp Try.prog (reg19 11) (Only K_) { tmps := #[.pointer (some ⟨g, 0, none⟩), s1, s2, .pointer (some ⟨T, 0, none⟩), s4, s5, s6, s7, s8, s9, s10, s11, s12, s13, s14, s15, s16, s17, s18, s19, s20, s21, s22, s23, s24, s25, s26, s27, s28, s29, s30, s31, s32, s33, s34, s35, s36, s37, s38, s39, s40, s41, s42, s43, s44, s45, s46, s47, s48, s49, s50, s51, s52, s53, s54, s55, s56, s57, s58, s59, s60, s61, s62, s63, s64, s65, s66, s67, s68, s69, s70, s71, s72, s73, s74, s75, s76, s77, s78, s79, s80, s81, s82, s83, s84], defers := [] } W2 := by
  obtain ⟨iR, hi1, hy0, hy1, hy2⟩ := info_parts info35s
  have hwn : IntKind.i64.wrap (n + 2) = n + 2 := wrap_i (by omega) (by omega)
  have HQ := hide hQ
  clear hQ
  conv => arg 2; whnf
  refine wp_region_inv (fun Lb A W => ∃ (u0 u1 u2 u3 u4 u5 u6 u7 u8 u9 u10 u11 u12 u13 : Bool) (ra : Int) (rN : Nat) (p : Nat) (q : Nat) (vq : Option Addr) (cq : Nat) (L2 : List Int), Lb = #[u0, u1, u2, u3, u4, u5, u6, u7, u8, u9, u10, u11, u12, u13] ∧ A = ({ tmps := #[.pointer (some ⟨g, 0, none⟩), s1, s2, .pointer (some ⟨T, 0, none⟩), s4, s5, s6, s7, s8, s9, s10, s11, s12, s13, s14, s15, s16, s17, s18, s19, s20, s21, s22, s23, s24, s25, s26, s27, s28, s29, s30, s31, s32, s33, s34, s35, s36, s37, s38, s39, s40, s41, s42, s43, s44, s45, s46, s47, s48, s49, s50, s51, s52, s53, s54, s55, s56, s57, s58, s59, s60, s61, (bif u0 then .pointer (some ⟨T, 1, none⟩) else s62), (bif u1 then .slice u_ l cap_ else s63), (bif u2 then .pointer (some ⟨g, 0, none⟩) else s64), (bif u3 then .int .i64 (ra) else s65), (bif u4 then .slice (some ⟨p, 0, none⟩) 4 4 else s66), (bif u5 then .pointer (some ⟨g, 0, none⟩) else s67), (bif u6 then .int .i64 ((rN : Int)) else s68), (bif u7 then .pointer (some ⟨p, rN, none⟩) else s69), (bif u8 then .int .i64 (gt [-1, 100000, 100001, ra] rN) else s70), (bif u9 then .agg #[.int .i64 (1), .int .i64 (0), .int .i64 (0), .int .i64 (gt [-1, 100000, 100001, ra] rN)] else s71), (bif u10 then .slice (some ⟨q, 0, none⟩) 1 1 else s72), (bif u11 then .slice vq (l + 1) cq else s73), (bif u12 then .pointer (some ⟨T, 1, none⟩) else s74), s75, s76, s77, s78, s79, s80, s81, s82, s83, s84], defers := [] } : Act) ∧ (u11 = false → Sto B g T n (k + 10003 + (bif u3 then 3 else 0) + (bif u6 then 3 else 0)) w (.slice u_ l cap_) l L W) ∧ (u6 = true → u3 = true) ∧ (u3 = true → -9223372036854775808 ≤ ra ∧ ra ≤ 9223372036854775807) ∧ (u6 = true → 0 ≤ (rN : Int) ∧ (rN : Int) < 4) ∧ (u4 = true → u11 = false → W.heap[p]? = some (.cells #[.int .i64 (-1), .int .i64 (100000), .int .i64 (100001), .int .i64 (ra)] 3) ∧ p ≠ g) ∧ (u10 = true → u11 = false → W.heap[q]? = some (.cells #[.int .i64 (1), .int .i64 (0), .int .i64 (0), .int .i64 (gt [-1, 100000, 100001, ra] rN)] 35) ∧ q ≠ g) ∧ (u11 = true → u13 = false → sblk W T n (.slice u_ l cap_) ∧ Sto B g T n (k + 10015) w (.slice vq (l + 1) cq) (l + 1) L2 (W.setCell ⟨T, 1, none⟩ (.slice vq (l + 1) cq))) ∧ (u13 = true → Sto B g T n (k + 10015) w (.slice vq (l + 1) cq) (l + 1) L2 W) ∧ (u1 = true → u0 = true) ∧ (u3 = true → u2 = true) ∧ (u4 = true → u3 = true) ∧ (u6 = true → u5 = true ∧ u3 = true) ∧ (u7 = true → u4 = true ∧ u6 = true) ∧ (u8 = true → u7 = true) ∧ (u9 = true → u8 = true) ∧ (u10 = true → u9 = true) ∧ (u11 = true → u1 = true ∧ u10 = true) ∧ (u13 = true → u0 = true ∧ u1 = true ∧ u2 = true ∧ u3 = true ∧ u4 = true ∧ u5 = true ∧ u6 = true ∧ u7 = true ∧ u8 = true ∧ u9 = true ∧ u10 = true ∧ u11 = true ∧ u12 = true)) (by kernel_rfl) (by kernel_rfl) ?h0 ?hstep ?hend
  case h0 =>
    exact ⟨false, false, false, false, false, false, false, false, false, false, false, false, false, false, 0, 0, 0, 0, none, 0, [], rfl, rfl, (fun _ => by have := (unhide H2).drew; simpa using this), (fun h => nomatch h), (fun h => nomatch h), (fun h => nomatch h), (fun h => nomatch h), (fun h => nomatch h), (fun h => nomatch h), (fun h => nomatch h), (fun h => nomatch h), (fun h => nomatch h), (fun h => nomatch h), (fun h => nomatch h), (fun h => nomatch h), (fun h => nomatch h), (fun h => nomatch h), (fun h => nomatch h), (fun h => nomatch h), (fun h => nomatch h)⟩
  case hstep =>
    rintro Lb A W ⟨u0, u1, u2, u3, u4, u5, u6, u7, u8, u9, u10, u11, u12, u13, ra, rN, p, q, vq, cq, L2, rfl, rfl, kS, k6, b3, b6, q4, q10, kM, kZ, c1, c3, c4, c6, c7, c8, c9, c10, c11, kF⟩
    refine ⟨?_, ?_, ?_, ?_, ?_, ?_, ?_, ?_, ?_, ?_, ?_, ?_, ?_, ?_, trivial⟩
    · intro h0 hd K hK
      have z : u0 = false := h0
      have z13_ : u13 = false := by
        cases hu : u13 with
        | false => rfl
        | true => exact nomatch z.symm.trans ((kF hu).1)
      have H_kS := hide kS
      have H_k6 := hide k6
      have H_b3 := hide b3
      have H_b6 := hide b6
      have H_q4 := hide q4
      have H_q10 := hide q10
      have H_kM := hide kM
      have H_kZ := hide kZ
      have H_c1 := hide c1
      have H_c3 := hide c3
      have H_c4 := hide c4
      have H_c6 := hide c6
      have H_c7 := hide c7
      have H_c8 := hide c8
      have H_c9 := hide c9
      have H_c10 := hide c10
      have H_c11 := hide c11
      have H_kF := hide kF
      clear kS k6 b3 b6 q4 q10 kM kZ c1 c3 c4 c6 c7 c8 c9 c10 c11 kF
      subst z13_
      subst z
      clear h0 hd
      rw [if_pos (by rfl)]
      go_simp
      exact unhide hK _ _ ⟨true, u1, u2, u3, u4, u5, u6, u7, u8, u9, u10, u11, u12, false, ra, rN, p, q, vq, cq, L2, rfl, rfl, unhide H_kS, unhide H_k6, unhide H_b3, unhide H_b6, unhide H_q4, unhide H_q10, unhide H_kM, (fun h => nomatch h), (fun h => rfl), unhide H_c3, unhide H_c4, unhide H_c6, unhide H_c7, unhide H_c8, unhide H_c9, unhide H_c10, unhide H_c11, (fun h => nomatch h)⟩
    · intro h0 hd K hK
      have z : u1 = false := h0
      have z13_ : u13 = false := by
        cases hu : u13 with
        | false => rfl
        | true => exact nomatch z.symm.trans ((kF hu).2.1)
      have z11_ : u11 = false := by
        cases hu : u11 with
        | false => rfl
        | true => exact nomatch z.symm.trans ((c11 hu).1)
      have zd : u0 = true := by
        simp [Region.binds] at hd
        simp [hd]
      have H_kS := hide kS
      have H_k6 := hide k6
      have H_b3 := hide b3
      have H_b6 := hide b6
      have H_q4 := hide q4
      have H_q10 := hide q10
      have H_kM := hide kM
      have H_kZ := hide kZ
      have H_c1 := hide c1
      have H_c3 := hide c3
      have H_c4 := hide c4
      have H_c6 := hide c6
      have H_c7 := hide c7
      have H_c8 := hide c8
      have H_c9 := hide c9
      have H_c10 := hide c10
      have H_c11 := hide c11
      have H_kF := hide kF
      clear kS k6 b3 b6 q4 q10 kM kZ c1 c3 c4 c6 c7 c8 c9 c10 c11 kF
      obtain ⟨rfl⟩ := zd
      subst z13_
      subst z11_
      subst z
      clear h0 hd
      rw [if_pos (by rfl)]
      have cc := (unhide H_kS rfl).tb.c1
      go_simp
      exact unhide hK _ _ ⟨true, true, u2, u3, u4, u5, u6, u7, u8, u9, u10, false, u12, false, ra, rN, p, q, vq, cq, L2, rfl, rfl, unhide H_kS, unhide H_k6, unhide H_b3, unhide H_b6, unhide H_q4, unhide H_q10, unhide H_kM, (fun h => nomatch h), (fun _ => rfl), unhide H_c3, unhide H_c4, unhide H_c6, unhide H_c7, unhide H_c8, unhide H_c9, unhide H_c10, (fun h => nomatch h), (fun h => nomatch h)⟩
    · intro h0 hd K hK
      have z : u2 = false := h0
      have z13_ : u13 = false := by
        cases hu : u13 with
        | false => rfl
        | true => exact nomatch z.symm.trans ((kF hu).2.2.1)
      have H_kS := hide kS
      have H_k6 := hide k6
      have H_b3 := hide b3
      have H_b6 := hide b6
      have H_q4 := hide q4
      have H_q10 := hide q10
      have H_kM := hide kM
      have H_kZ := hide kZ
      have H_c1 := hide c1
      have H_c3 := hide c3
      have H_c4 := hide c4
      have H_c6 := hide c6
      have H_c7 := hide c7
      have H_c8 := hide c8
      have H_c9 := hide c9
      have H_c10 := hide c10
      have H_c11 := hide c11
      have H_kF := hide kF
      clear kS k6 b3 b6 q4 q10 kM kZ c1 c3 c4 c6 c7 c8 c9 c10 c11 kF
      subst z13_
      subst z
      clear h0 hd
      rw [if_pos (by rfl)]
      go_simp
      exact unhide hK _ _ ⟨u0, u1, true, u3, u4, u5, u6, u7, u8, u9, u10, u11, u12, false, ra, rN, p, q, vq, cq, L2, rfl, rfl, unhide H_kS, unhide H_k6, unhide H_b3, unhide H_b6, unhide H_q4, unhide H_q10, unhide H_kM, (fun h => nomatch h), unhide H_c1, (fun h => rfl), unhide H_c4, unhide H_c6, unhide H_c7, unhide H_c8, unhide H_c9, unhide H_c10, unhide H_c11, (fun h => nomatch h)⟩
    · intro h0 hd K hK
      have z : u3 = false := h0
      have z13_ : u13 = false := by
        cases hu : u13 with
        | false => rfl
        | true => exact nomatch z.symm.trans ((kF hu).2.2.2.1)
      have z4_ : u4 = false := by
        cases hu : u4 with
        | false => rfl
        | true => exact nomatch z.symm.trans ((c4 hu))
      have z6_ : u6 = false := by
        cases hu : u6 with
        | false => rfl
        | true => exact nomatch z.symm.trans ((c6 hu).2)
      have z8_ : u8 = false := by
        cases hu : u8 with
        | false => rfl
        | true => exact nomatch z.symm.trans ((c4 (c7 (c8 hu)).1))
      have z9_ : u9 = false := by
        cases hu : u9 with
        | false => rfl
        | true => exact nomatch z.symm.trans ((c4 (c7 (c8 (c9 hu))).1))
      have z10_ : u10 = false := by
        cases hu : u10 with
        | false => rfl
        | true => exact nomatch z.symm.trans ((c4 (c7 (c8 (c9 (c10 hu)))).1))
      have z11_ : u11 = false := by
        cases hu : u11 with
        | false => rfl
        | true => exact nomatch z.symm.trans ((c4 (c7 (c8 (c9 (c10 (c11 hu).2)))).1))
      have zd : u2 = true := by
        simp [Region.binds] at hd
        simp [hd]
      have H_kS := hide kS
      have H_k6 := hide k6
      have H_b3 := hide b3
      have H_b6 := hide b6
      have H_q4 := hide q4
      have H_q10 := hide q10
      have H_kM := hide kM
      have H_kZ := hide kZ
      have H_c1 := hide c1
      have H_c3 := hide c3
      have H_c4 := hide c4
      have H_c6 := hide c6
      have H_c7 := hide c7
      have H_c8 := hide c8
      have H_c9 := hide c9
      have H_c10 := hide c10
      have H_c11 := hide c11
      have H_kF := hide kF
      clear kS k6 b3 b6 q4 q10 kM kZ c1 c3 c4 c6 c7 c8 c9 c10 c11 kF
      obtain ⟨rfl⟩ := zd
      subst z13_
      subst z4_
      subst z6_
      subst z8_
      subst z9_
      subst z10_
      subst z11_
      subst z
      clear h0 hd
      rw [if_pos (by rfl)]
      have HSS : Sto B g T n (k + 10003) w (.slice u_ l cap_) l L W := by have := unhide H_kS rfl; simp  at this; exact this.up (by omega)
      go_simp
      refine (odd_any (k := (k + 10003)) HSS.so (by omega)).mono ?_
      rintro e w8 ⟨r, rfl, hr1, hr2, hs, mv⟩
      exact unhide hK _ _ ⟨u0, u1, true, true, false, u5, false, u7, false, false, false, false, u12, false, r, rN, p, q, vq, cq, L2, rfl, rfl, (fun _ => by have := HSS.step hs mv; simp ; exact this.up (by omega)), (fun h => nomatch h), (fun _ => by omega), (fun h => nomatch h), (fun h => nomatch h), (fun h => nomatch h), (fun h => nomatch h), (fun h => nomatch h), unhide H_c1, (fun _ => rfl), (fun h => nomatch h), (fun h => nomatch h), unhide H_c7, (fun h => nomatch h), (fun h => nomatch h), (fun h => nomatch h), (fun h => nomatch h), (fun h => nomatch h)⟩
    · intro h0 hd K hK
      have z : u4 = false := h0
      have z13_ : u13 = false := by
        cases hu : u13 with
        | false => rfl
        | true => exact nomatch z.symm.trans ((kF hu).2.2.2.2.1)
      have z7_ : u7 = false := by
        cases hu : u7 with
        | false => rfl
        | true => exact nomatch z.symm.trans ((c7 hu).1)
      have z11_ : u11 = false := by
        cases hu : u11 with
        | false => rfl
        | true => exact nomatch z.symm.trans ((c7 (c8 (c9 (c10 (c11 hu).2)))).1)
      have zd : u3 = true := by
        simp [Region.binds] at hd
        simp [hd]
      have H_kS := hide kS
      have H_k6 := hide k6
      have H_b3 := hide b3
      have H_b6 := hide b6
      have H_q4 := hide q4
      have H_q10 := hide q10
      have H_kM := hide kM
      have H_kZ := hide kZ
      have H_c1 := hide c1
      have H_c3 := hide c3
      have H_c4 := hide c4
      have H_c6 := hide c6
      have H_c7 := hide c7
      have H_c8 := hide c8
      have H_c9 := hide c9
      have H_c10 := hide c10
      have H_c11 := hide c11
      have H_kF := hide kF
      clear kS k6 b3 b6 q4 q10 kM kZ c1 c3 c4 c6 c7 c8 c9 c10 c11 kF
      obtain ⟨rfl⟩ := zd
      subst z13_
      subst z7_
      subst z11_
      subst z
      clear h0 hd
      rw [if_pos (by rfl)]
      go_simp
      exact unhide hK _ _ ⟨u0, u1, u2, true, true, u5, u6, false, u8, u9, u10, false, u12, false, ra, rN, W.heap.size, q, vq, cq, L2, rfl, rfl, (fun _ => (unhide H_kS rfl).alloc _), unhide H_k6, unhide H_b3, unhide H_b6, (fun _ _ => ⟨heap_alloc_new W _, by have := (unhide H_kS rfl).so.lt; omega⟩), (fun h1 h2 => ⟨(Below.heap_alloc _ _ _ (Array.getElem?_eq_some_iff.1 (unhide H_q10 h1 rfl).1).1).trans (unhide H_q10 h1 rfl).1, (unhide H_q10 h1 rfl).2⟩), (fun h => nomatch h), (fun h => nomatch h), unhide H_c1, unhide H_c3, (fun _ => rfl), (fun h => ⟨(unhide H_c6 h).1, rfl⟩), (fun h => nomatch h), unhide H_c8, unhide H_c9, unhide H_c10, (fun h => nomatch h), (fun h => nomatch h)⟩
    · intro h0 hd K hK
      have z : u5 = false := h0
      have z13_ : u13 = false := by
        cases hu : u13 with
        | false => rfl
        | true => exact nomatch z.symm.trans ((kF hu).2.2.2.2.2.1)
      have H_kS := hide kS
      have H_k6 := hide k6
      have H_b3 := hide b3
      have H_b6 := hide b6
      have H_q4 := hide q4
      have H_q10 := hide q10
      have H_kM := hide kM
      have H_kZ := hide kZ
      have H_c1 := hide c1
      have H_c3 := hide c3
      have H_c4 := hide c4
      have H_c6 := hide c6
      have H_c7 := hide c7
      have H_c8 := hide c8
      have H_c9 := hide c9
      have H_c10 := hide c10
      have H_c11 := hide c11
      have H_kF := hide kF
      clear kS k6 b3 b6 q4 q10 kM kZ c1 c3 c4 c6 c7 c8 c9 c10 c11 kF
      subst z13_
      subst z
      clear h0 hd
      rw [if_pos (by rfl)]
      go_simp
      exact unhide hK _ _ ⟨u0, u1, u2, u3, u4, true, u6, u7, u8, u9, u10, u11, u12, false, ra, rN, p, q, vq, cq, L2, rfl, rfl, unhide H_kS, unhide H_k6, unhide H_b3, unhide H_b6, unhide H_q4, unhide H_q10, unhide H_kM, (fun h => nomatch h), unhide H_c1, unhide H_c3, unhide H_c4, (fun h => ⟨rfl, (unhide H_c6 h).2⟩), unhide H_c7, unhide H_c8, unhide H_c9, unhide H_c10, unhide H_c11, (fun h => nomatch h)⟩
    · intro h0 hd K hK
      have z : u6 = false := h0
      have z13_ : u13 = false := by
        cases hu : u13 with
        | false => rfl
        | true => exact nomatch z.symm.trans ((kF hu).2.2.2.2.2.2.1)
      have z7_ : u7 = false := by
        cases hu : u7 with
        | false => rfl
        | true => exact nomatch z.symm.trans ((c7 hu).2)
      have z8_ : u8 = false := by
        cases hu : u8 with
        | false => rfl
        | true => exact nomatch z.symm.trans ((c7 (c8 hu)).2)
      have z9_ : u9 = false := by
        cases hu : u9 with
        | false => rfl
        | true => exact nomatch z.symm.trans ((c7 (c8 (c9 hu))).2)
      have z10_ : u10 = false := by
        cases hu : u10 with
        | false => rfl
        | true => exact nomatch z.symm.trans ((c7 (c8 (c9 (c10 hu)))).2)
      have z11_ : u11 = false := by
        cases hu : u11 with
        | false => rfl
        | true => exact nomatch z.symm.trans ((c7 (c8 (c9 (c10 (c11 hu).2)))).2)
      have zd : u5 = true ∧ u3 = true := by
        simp [Region.binds] at hd
        simp [hd]
      have H_kS := hide kS
      have H_k6 := hide k6
      have H_b3 := hide b3
      have H_b6 := hide b6
      have H_q4 := hide q4
      have H_q10 := hide q10
      have H_kM := hide kM
      have H_kZ := hide kZ
      have H_c1 := hide c1
      have H_c3 := hide c3
      have H_c4 := hide c4
      have H_c6 := hide c6
      have H_c7 := hide c7
      have H_c8 := hide c8
      have H_c9 := hide c9
      have H_c10 := hide c10
      have H_c11 := hide c11
      have H_kF := hide kF
      clear kS k6 b3 b6 q4 q10 kM kZ c1 c3 c4 c6 c7 c8 c9 c10 c11 kF
      obtain ⟨rfl, rfl⟩ := zd
      subst z13_
      subst z7_
      subst z8_
      subst z9_
      subst z10_
      subst z11_
      subst z
      clear h0 hd
      rw [if_pos (by rfl)]
      have HSS : Sto B g T n (k + 10006) w (.slice u_ l cap_) l L W := by have := unhide H_kS rfl; simp  at this; exact this.up (by omega)
      go_simp
      refine (next_any (k := (k + 10006)) 4 HSS.so (by omega) (by omega) (by omega)).mono ?_
      rintro e w8 ⟨r, rfl, hr1, hr2, hs, mv⟩
      obtain ⟨rN, rfl⟩ := Int.eq_ofNat_of_zero_le hr1
      exact unhide hK _ _ ⟨u0, u1, u2, true, u4, true, true, false, false, false, false, false, u12, false, ra, rN, p, q, vq, cq, L2, rfl, rfl, (fun _ => by have := HSS.step hs mv; simp ; exact this.up (by omega)), (fun _ => rfl), unhide H_b3, (fun _ => by omega), (fun h1 h2 => ⟨(mv.block _ (Array.getElem?_eq_some_iff.1 (unhide H_q4 h1 rfl).1).1 (unhide H_q4 h1 rfl).2).trans (unhide H_q4 h1 rfl).1, (unhide H_q4 h1 rfl).2⟩), (fun h => nomatch h), (fun h => nomatch h), (fun h => nomatch h), unhide H_c1, unhide H_c3, (fun h => rfl), (fun _ => ⟨rfl, rfl⟩), (fun h => nomatch h), (fun h => nomatch h), (fun h => nomatch h), (fun h => nomatch h), (fun h => nomatch h), (fun h => nomatch h)⟩
    · intro h0 hd K hK
      have z : u7 = false := h0
      have z13_ : u13 = false := by
        cases hu : u13 with
        | false => rfl
        | true => exact nomatch z.symm.trans ((kF hu).2.2.2.2.2.2.2.1)
      have zd : u4 = true ∧ u6 = true := by
        simp [Region.binds] at hd
        simp [hd]
      have H_kS := hide kS
      have H_k6 := hide k6
      have H_b3 := hide b3
      have H_b6 := hide b6
      have H_q4 := hide q4
      have H_q10 := hide q10
      have H_kM := hide kM
      have H_kZ := hide kZ
      have H_c1 := hide c1
      have H_c3 := hide c3
      have H_c4 := hide c4
      have H_c6 := hide c6
      have H_c7 := hide c7
      have H_c8 := hide c8
      have H_c9 := hide c9
      have H_c10 := hide c10
      have H_c11 := hide c11
      have H_kF := hide kF
      clear kS k6 b3 b6 q4 q10 kM kZ c1 c3 c4 c6 c7 c8 c9 c10 c11 kF
      obtain ⟨rfl, rfl⟩ := zd
      subst z13_
      subst z
      clear h0 hd
      rw [if_pos (by rfl)]
      have hb := unhide H_b6 rfl
      have o4 : rN < 4 := by omega
      have o5 := hb.1
      have o6 := hb.2
      go_simp
      exact unhide hK _ _ ⟨u0, u1, u2, u3, true, u5, true, true, u8, u9, u10, u11, u12, false, ra, rN, p, q, vq, cq, L2, rfl, rfl, unhide H_kS, unhide H_k6, unhide H_b3, unhide H_b6, unhide H_q4, unhide H_q10, unhide H_kM, (fun h => nomatch h), unhide H_c1, unhide H_c3, unhide H_c4, unhide H_c6, (fun _ => ⟨rfl, rfl⟩), (fun h => rfl), unhide H_c9, unhide H_c10, unhide H_c11, (fun h => nomatch h)⟩
    · intro h0 hd K hK
      have z : u8 = false := h0
      have z13_ : u13 = false := by
        cases hu : u13 with
        | false => rfl
        | true => exact nomatch z.symm.trans ((kF hu).2.2.2.2.2.2.2.2.1)
      have z11_ : u11 = false := by
        cases hu : u11 with
        | false => rfl
        | true => exact nomatch z.symm.trans ((c9 (c10 (c11 hu).2)))
      have zd : u7 = true := by
        simp [Region.binds] at hd
        simp [hd]
      have H_kS := hide kS
      have H_k6 := hide k6
      have H_b3 := hide b3
      have H_b6 := hide b6
      have H_q4 := hide q4
      have H_q10 := hide q10
      have H_kM := hide kM
      have H_kZ := hide kZ
      have H_c1 := hide c1
      have H_c3 := hide c3
      have H_c4 := hide c4
      have H_c6 := hide c6
      have H_c7 := hide c7
      have H_c8 := hide c8
      have H_c9 := hide c9
      have H_c10 := hide c10
      have H_c11 := hide c11
      have H_kF := hide kF
      clear kS k6 b3 b6 q4 q10 kM kZ c1 c3 c4 c6 c7 c8 c9 c10 c11 kF
      obtain ⟨rfl⟩ := zd
      subst z13_
      subst z11_
      subst z
      clear h0 hd
      rw [if_pos (by rfl)]
      have hb := unhide H_b6 (unhide H_c7 rfl).2
      have cc := (show iblk W p 3 [-1, 100000, 100001, ra] from (unhide H_q4 (unhide H_c7 rfl).1 rfl).1).cell (gtk_some (show rN < 4 by omega))
      go_simp
      exact unhide hK _ _ ⟨u0, u1, u2, u3, u4, u5, u6, true, true, u9, u10, false, u12, false, ra, rN, p, q, vq, cq, L2, rfl, rfl, unhide H_kS, unhide H_k6, unhide H_b3, unhide H_b6, unhide H_q4, unhide H_q10, unhide H_kM, (fun h => nomatch h), unhide H_c1, unhide H_c3, unhide H_c4, unhide H_c6, unhide H_c7, (fun _ => rfl), (fun h => rfl), unhide H_c10, (fun h => nomatch h), (fun h => nomatch h)⟩
    · intro h0 hd K hK
      have z : u9 = false := h0
      have z13_ : u13 = false := by
        cases hu : u13 with
        | false => rfl
        | true => exact nomatch z.symm.trans ((kF hu).2.2.2.2.2.2.2.2.2.1)
      have zd : u8 = true := by
        simp [Region.binds] at hd
        simp [hd]
      have H_kS := hide kS
      have H_k6 := hide k6
      have H_b3 := hide b3
      have H_b6 := hide b6
      have H_q4 := hide q4
      have H_q10 := hide q10
      have H_kM := hide kM
      have H_kZ := hide kZ
      have H_c1 := hide c1
      have H_c3 := hide c3
      have H_c4 := hide c4
      have H_c6 := hide c6
      have H_c7 := hide c7
      have H_c8 := hide c8
      have H_c9 := hide c9
      have H_c10 := hide c10
      have H_c11 := hide c11
      have H_kF := hide kF
      clear kS k6 b3 b6 q4 q10 kM kZ c1 c3 c4 c6 c7 c8 c9 c10 c11 kF
      obtain ⟨rfl⟩ := zd
      subst z13_
      subst z
      clear h0 hd
      rw [if_pos (by rfl)]
      go_simp
      exact unhide hK _ _ ⟨u0, u1, u2, u3, u4, u5, u6, u7, true, true, u10, u11, u12, false, ra, rN, p, q, vq, cq, L2, rfl, rfl, unhide H_kS, unhide H_k6, unhide H_b3, unhide H_b6, unhide H_q4, unhide H_q10, unhide H_kM, (fun h => nomatch h), unhide H_c1, unhide H_c3, unhide H_c4, unhide H_c6, unhide H_c7, unhide H_c8, (fun _ => rfl), (fun h => rfl), unhide H_c11, (fun h => nomatch h)⟩
    · intro h0 hd K hK
      have z : u10 = false := h0
      have z13_ : u13 = false := by
        cases hu : u13 with
        | false => rfl
        | true => exact nomatch z.symm.trans ((kF hu).2.2.2.2.2.2.2.2.2.2.1)
      have z11_ : u11 = false := by
        cases hu : u11 with
        | false => rfl
        | true => exact nomatch z.symm.trans ((c11 hu).2)
      have zd : u9 = true := by
        simp [Region.binds] at hd
        simp [hd]
      have H_kS := hide kS
      have H_k6 := hide k6
      have H_b3 := hide b3
      have H_b6 := hide b6
      have H_q4 := hide q4
      have H_q10 := hide q10
      have H_kM := hide kM
      have H_kZ := hide kZ
      have H_c1 := hide c1
      have H_c3 := hide c3
      have H_c4 := hide c4
      have H_c6 := hide c6
      have H_c7 := hide c7
      have H_c8 := hide c8
      have H_c9 := hide c9
      have H_c10 := hide c10
      have H_c11 := hide c11
      have H_kF := hide kF
      clear kS k6 b3 b6 q4 q10 kM kZ c1 c3 c4 c6 c7 c8 c9 c10 c11 kF
      obtain ⟨rfl⟩ := zd
      subst z13_
      subst z11_
      subst z
      clear h0 hd
      rw [if_pos (by rfl)]
      go_simp
      exact unhide hK _ _ ⟨u0, u1, u2, u3, u4, u5, u6, u7, u8, true, true, false, u12, false, ra, rN, p, W.heap.size, vq, cq, L2, rfl, rfl, (fun _ => (unhide H_kS rfl).alloc _), unhide H_k6, unhide H_b3, unhide H_b6, (fun h1 h2 => ⟨(Below.heap_alloc _ _ _ (Array.getElem?_eq_some_iff.1 (unhide H_q4 h1 rfl).1).1).trans (unhide H_q4 h1 rfl).1, (unhide H_q4 h1 rfl).2⟩), (fun _ _ => ⟨heap_alloc_new W _, by have := (unhide H_kS rfl).so.lt; omega⟩), (fun h => nomatch h), (fun h => nomatch h), unhide H_c1, unhide H_c3, unhide H_c4, unhide H_c6, unhide H_c7, unhide H_c8, unhide H_c9, (fun _ => rfl), (fun h => nomatch h), (fun h => nomatch h)⟩
    · intro h0 hd K hK
      have z : u11 = false := h0
      have z13_ : u13 = false := by
        cases hu : u13 with
        | false => rfl
        | true => exact nomatch z.symm.trans ((kF hu).2.2.2.2.2.2.2.2.2.2.2.1)
      have zd : u1 = true ∧ u10 = true := by
        simp [Region.binds] at hd
        simp [hd]
      have H_kS := hide kS
      have H_k6 := hide k6
      have H_b3 := hide b3
      have H_b6 := hide b6
      have H_q4 := hide q4
      have H_q10 := hide q10
      have H_kM := hide kM
      have H_kZ := hide kZ
      have H_c1 := hide c1
      have H_c3 := hide c3
      have H_c4 := hide c4
      have H_c6 := hide c6
      have H_c7 := hide c7
      have H_c8 := hide c8
      have H_c9 := hide c9
      have H_c10 := hide c10
      have H_c11 := hide c11
      have H_kF := hide kF
      clear kS k6 b3 b6 q4 q10 kM kZ c1 c3 c4 c6 c7 c8 c9 c10 c11 kF
      obtain ⟨rfl, rfl⟩ := zd
      subst z13_
      subst z
      clear h0 hd
      rw [if_pos (by rfl)]
      have HS0 := unhide H_kS rfl
      have hq0 := unhide H_q10 rfl rfl
      have hszz := HS0.mv.size
      have lrs := HS0.res.lt
      refine wp_append_own W (.tmp 63) (.tmp 72) 23 (by rfl) (w.heap.size + 1) 35 iR _ 4 32 Try.underlying23 hi1 hy0 hy1 hy2 rfl (by omega) (.slice u_ l cap_) l (L.map (Value.int .i64)) (by rfl) HS0.row ⟨q, 0, none⟩ 1 1 ([1, 0, 0, gt [-1, 100000, 100001, ra] rN].map (Value.int .i64)) (by rfl) (by rfl) (blk_cells hq0.1) ints_one (by unfold maxLen; omega) (by omega) (by omega) ?_
      intro v' wz hown' hgrow _
      have R := own_more (wr := W) (news := [1, 0, 0, gt [-1, 100000, 100001, ra] rN]) (Below.refl _ _) (by omega) HS0.row hown' hgrow
      have AP := HS0.app (Below.refl _ _) R.1 hgrow
      obtain ⟨vz, cz, rfl, _⟩ := R.1.form
      exact unhide hK _ _ ⟨u0, true, u2, u3, u4, u5, u6, u7, u8, u9, true, true, u12, false, ra, rN, p, q, vz, cz, (L ++ [1, 0, 0, gt [-1, 100000, 100001, ra] rN]), rfl, rfl, (fun h => nomatch h), unhide H_k6, unhide H_b3, unhide H_b6, (fun _ h => nomatch h), (fun _ h => nomatch h), (fun _ _ => ⟨AP.1, AP.2.2.up (by have h3 : ∀ b : Bool, (bif b then (3 : Int) else 0) ≤ 3 := (by intro b; cases b <;> simp); have := h3 u3; have := h3 u6; omega)⟩), (fun h => nomatch h), unhide H_c1, unhide H_c3, unhide H_c4, unhide H_c6, unhide H_c7, unhide H_c8, unhide H_c9, unhide H_c10, (fun _ => ⟨rfl, rfl⟩), (fun h => nomatch h)⟩
    · intro h0 hd K hK
      have z : u12 = false := h0
      have z13_ : u13 = false := by
        cases hu : u13 with
        | false => rfl
        | true => exact nomatch z.symm.trans ((kF hu).2.2.2.2.2.2.2.2.2.2.2.2)
      have H_kS := hide kS
      have H_k6 := hide k6
      have H_b3 := hide b3
      have H_b6 := hide b6
      have H_q4 := hide q4
      have H_q10 := hide q10
      have H_kM := hide kM
      have H_kZ := hide kZ
      have H_c1 := hide c1
      have H_c3 := hide c3
      have H_c4 := hide c4
      have H_c6 := hide c6
      have H_c7 := hide c7
      have H_c8 := hide c8
      have H_c9 := hide c9
      have H_c10 := hide c10
      have H_c11 := hide c11
      have H_kF := hide kF
      clear kS k6 b3 b6 q4 q10 kM kZ c1 c3 c4 c6 c7 c8 c9 c10 c11 kF
      subst z13_
      subst z
      clear h0 hd
      rw [if_pos (by rfl)]
      go_simp
      exact unhide hK _ _ ⟨u0, u1, u2, u3, u4, u5, u6, u7, u8, u9, u10, u11, true, false, ra, rN, p, q, vq, cq, L2, rfl, rfl, unhide H_kS, unhide H_k6, unhide H_b3, unhide H_b6, unhide H_q4, unhide H_q10, unhide H_kM, (fun h => nomatch h), unhide H_c1, unhide H_c3, unhide H_c4, unhide H_c6, unhide H_c7, unhide H_c8, unhide H_c9, unhide H_c10, unhide H_c11, (fun h => nomatch h)⟩
    · intro h0 hd K hK
      have z : u13 = false := h0
      have zd : u11 = true ∧ u12 = true ∧ u0 = true ∧ u1 = true ∧ u2 = true ∧ u3 = true ∧ u4 = true ∧ u5 = true ∧ u6 = true ∧ u7 = true ∧ u8 = true ∧ u9 = true ∧ u10 = true := by
        simp [Region.binds] at hd
        simp [hd]
      have H_kS := hide kS
      have H_k6 := hide k6
      have H_b3 := hide b3
      have H_b6 := hide b6
      have H_q4 := hide q4
      have H_q10 := hide q10
      have H_kM := hide kM
      have H_kZ := hide kZ
      have H_c1 := hide c1
      have H_c3 := hide c3
      have H_c4 := hide c4
      have H_c6 := hide c6
      have H_c7 := hide c7
      have H_c8 := hide c8
      have H_c9 := hide c9
      have H_c10 := hide c10
      have H_c11 := hide c11
      have H_kF := hide kF
      clear kS k6 b3 b6 q4 q10 kM kZ c1 c3 c4 c6 c7 c8 c9 c10 c11 kF
      obtain ⟨rfl, rfl, rfl, rfl, rfl, rfl, rfl, rfl, rfl, rfl, rfl, rfl, rfl⟩ := zd
      subst z
      clear h0 hd
      rw [if_pos (by rfl)]
      have cc := (unhide H_kM rfl rfl).1.c1
      have cf := (unhide H_kM rfl rfl).1.frz 1
      have clt := cell_lt cc
      go_simp
      exact unhide hK _ _ ⟨true, true, true, true, true, true, true, true, true, true, true, true, true, true, ra, rN, p, q, vq, cq, L2, rfl, rfl, (fun h => nomatch h), unhide H_k6, unhide H_b3, unhide H_b6, (fun _ h => nomatch h), (fun _ h => nomatch h), (fun _ h => nomatch h), (fun _ => (unhide H_kM rfl rfl).2), (fun _ => rfl), (fun _ => rfl), (fun _ => rfl), (fun _ => ⟨rfl, rfl⟩), (fun _ => ⟨rfl, rfl⟩), (fun _ => rfl), (fun _ => rfl), (fun _ => rfl), (fun _ => ⟨rfl, rfl⟩), (fun _ => ⟨rfl, rfl, rfl, rfl, rfl, rfl, rfl, rfl, rfl, rfl, rfl, rfl, rfl⟩)⟩
  case hend =>
    rintro Lb A W ⟨u0, u1, u2, u3, u4, u5, u6, u7, u8, u9, u10, u11, u12, u13, ra, rN, p, q, vq, cq, L2, rfl, rfl, kS, k6, b3, b6, q4, q10, kM, kZ, c1, c3, c4, c6, c7, c8, c9, c10, c11, kF⟩ hL
    have hl : u0 = true ∧ u1 = true ∧ u2 = true ∧ u3 = true ∧ u4 = true ∧ u5 = true ∧ u6 = true ∧ u7 = true ∧ u8 = true ∧ u9 = true ∧ u10 = true ∧ u11 = true ∧ u12 = true ∧ u13 = true := by
      have h2 := congrArg Array.toList hL
      simpa [List.replicate] using h2
    obtain ⟨rfl, rfl, rfl, rfl, rfl, rfl, rfl, rfl, rfl, rfl, rfl, rfl, rfl, rfl⟩ := hl
    exact unhide HQ _ _ _ _ _ _ _ _ _ _ _ _ _ _ _ _ _ (kZ rfl)
end Go.Proofs.Ytchdmigeopmacaa
