/-
  One statement of the program's milling along a way, walked alone: nothing stands above the tool.
-/
import Derived.Test.YtbjljofgpbecbaaTak
import Derived.Test.YtbjljofgpbecbaaInv
namespace Go.Proofs.Ytbjljofgpbecbaa
open Go.ChangeShapes Go.WideShapes Go.ChangeAt Go.RowKit
set_option linter.unusedVariables false
set_option linter.unusedSimpArgs false

noncomputable def reg43 (id : Nat) : Go.Code := match Try.f43.body with | some c => (regOf id c).getD .skip | none => .skip
set_option maxHeartbeats 4000000 in
set_option maxRecDepth 100000 in
theorem af9 {s0 s1 s2 s3 s5 s6 s7 s8 s9 s10 s11 s12 s13 s16 s17 s18 s19 s20 s21 s22 s23 s24 s25 s26 s27 s28 s29 s30 s31 s32 s33 s34 s35 s36 s37 s38 s39 s40 s41 s42 s43 s44 s45 s46 s47 s48 s49 s50 s51 s52 s53 s54 s55 s56 s57 s58 s59 s60 s61 s62 s63 s64 s65 s66 s67 s68 s69 s70 s71 s72 s73 s74 : Value} {D : Nat} {hM nz : Int} {fast : Bool} {pv : Value} {V : World} {K_ : Act → World → Prop} (hlt : ¬ nz < hM)
    (HA : Hid (V.cell? ⟨D, 2, none⟩ = some (.int .i64 nz)))
    (HC : Hid (∀ X, Below V.heap.size V X → Calls Try.prog 48 #[pv] X fun x w' => x = .returned (.int .i64 hM) ∧ Below X.heap.size X w'))
    (hQ : ∀ (W' : World), Below V.heap.size V W' → K_ { tmps := #[s0, s1, s2, s3, .bool fast, s5, s6, s7, s8, s9, s10, s11, s12, s13, .pointer (some ⟨D, 0, none⟩), pv, s16, s17, s18, s19, s20, s21, s22, s23, s24, s25, s26, s27, s28, s29, s30, s31, s32, s33, s34, s35, s36, s37, s38, s39, s40, s41, s42, s43, s44, s45, .bool false, pv, .int .i64 (hM), .pointer (some ⟨D, 2, none⟩), .int .i64 (nz), .bool false, .bool false, undef, .bool false, s55, s56, s57, s58, s59, s60, s61, s62, s63, s64, s65, s66, s67, s68, s69, s70, s71, s72, s73, s74], defers := [] } W') :
    Go.Code.wp Try.prog (reg43 9) (Only K_) { tmps := #[s0, s1, s2, s3, .bool fast, s5, s6, s7, s8, s9, s10, s11, s12, s13, .pointer (some ⟨D, 0, none⟩), pv, s16, s17, s18, s19, s20, s21, s22, s23, s24, s25, s26, s27, s28, s29, s30, s31, s32, s33, s34, s35, s36, s37, s38, s39, s40, s41, s42, s43, s44, s45, s46, s47, s48, s49, s50, s51, s52, s53, s54, s55, s56, s57, s58, s59, s60, s61, s62, s63, s64, s65, s66, s67, s68, s69, s70, s71, s72, s73, s74], defers := [] } V := by
  have HQ := hide hQ
  have tm : decide (nz < hM) = false := decide_eq_false hlt
  clear hQ
  conv => arg 2; whnf
  refine wp_region_inv (fun Lb A W => ∃ (u0 u1 u2 u3 u4 u5 u6 u7 u8 : Bool) (dd : Nat), Lb = #[u0, u1, u2, u3, u4, u5, u6, u7, u8] ∧ A = ({ tmps := #[s0, s1, s2, s3, .bool fast, s5, s6, s7, s8, s9, s10, s11, s12, s13, .pointer (some ⟨D, 0, none⟩), pv, s16, s17, s18, s19, s20, s21, s22, s23, s24, s25, s26, s27, s28, s29, s30, s31, s32, s33, s34, s35, s36, s37, s38, s39, s40, s41, s42, s43, s44, s45, (bif u8 then .bool false else s46), (bif u0 then pv else s47), (bif u1 then .int .i64 (hM) else s48), (bif u2 then .pointer (some ⟨D, 2, none⟩) else s49), (bif u3 then .int .i64 (nz) else s50), (bif u4 then .bool false else s51), (bif u5 then .bool false else s52), (bif u6 then undef else s53), (bif u7 then .bool false else s54), s55, s56, s57, s58, s59, s60, s61, s62, s63, s64, s65, s66, s67, s68, s69, s70, s71, s72, s73, s74], defers := [] } : Act) ∧ Below V.heap.size V W ∧ (u1 = true → u0 = true) ∧ (u3 = true → u2 = true) ∧ (u4 = true → u1 = true ∧ u3 = true) ∧ (u5 = true → u4 = true) ∧ (u6 = true → u5 = true) ∧ (u7 = true → u5 = true ∧ u6 = true) ∧ (u8 = true → u0 = true ∧ u1 = true ∧ u2 = true ∧ u3 = true ∧ u4 = true ∧ u5 = true ∧ u6 = true ∧ u7 = true)) (by kernel_rfl) (by kernel_rfl) ?h0 ?hstep ?hend
  case h0 =>
    exact ⟨false, false, false, false, false, false, false, false, false, 0, rfl, rfl, Below.drew (Below.refl _ _), (fun h => nomatch h), (fun h => nomatch h), (fun h => nomatch h), (fun h => nomatch h), (fun h => nomatch h), (fun h => nomatch h), (fun h => nomatch h)⟩
  case hstep =>
    rintro Lb A W ⟨u0, u1, u2, u3, u4, u5, u6, u7, u8, dd, rfl, rfl, kS, c1, c3, c4, c5, c6, c7, kF⟩
    refine ⟨?_, ?_, ?_, ?_, ?_, ?_, ?_, ?_, ?_, trivial⟩
    · intro h0 hd K hK
      have z : u0 = false := h0
      have z8_ : u8 = false := by
        cases hu : u8 with
        | false => rfl
        | true => exact nomatch z.symm.trans ((kF hu).1)
      have H_kS := hide kS
      have H_c1 := hide c1
      have H_c3 := hide c3
      have H_c4 := hide c4
      have H_c5 := hide c5
      have H_c6 := hide c6
      have H_c7 := hide c7
      have H_kF := hide kF
      clear kS c1 c3 c4 c5 c6 c7 kF
      subst z8_
      subst z
      clear h0 hd
      rw [if_pos (by rfl)]
      go_simp
      exact unhide hK _ _ ⟨true, u1, u2, u3, u4, u5, u6, u7, false, dd, rfl, rfl, unhide H_kS, (fun h => rfl), unhide H_c3, unhide H_c4, unhide H_c5, unhide H_c6, unhide H_c7, (fun h => nomatch h)⟩
    · intro h0 hd K hK
      have z : u1 = false := h0
      have z8_ : u8 = false := by
        cases hu : u8 with
        | false => rfl
        | true => exact nomatch z.symm.trans ((kF hu).2.1)
      have zd : u0 = true := by
        simp [Region.binds] at hd
        simp [hd]
      have H_kS := hide kS
      have H_c1 := hide c1
      have H_c3 := hide c3
      have H_c4 := hide c4
      have H_c5 := hide c5
      have H_c6 := hide c6
      have H_c7 := hide c7
      have H_kF := hide kF
      clear kS c1 c3 c4 c5 c6 c7 kF
      obtain ⟨rfl⟩ := zd
      subst z8_
      subst z
      clear h0 hd
      rw [if_pos (by rfl)]
      go_simp
      refine (unhide HC W (unhide H_kS)).mono ?_
      rintro e w8 ⟨rfl, hb8⟩
      exact unhide hK _ _ ⟨true, true, u2, u3, u4, u5, u6, u7, false, dd, rfl, rfl, (bc (unhide H_kS) hb8), (fun _ => rfl), unhide H_c3, (fun h => ⟨rfl, (unhide H_c4 h).2⟩), unhide H_c5, unhide H_c6, unhide H_c7, (fun h => nomatch h)⟩
    · intro h0 hd K hK
      have z : u2 = false := h0
      have z8_ : u8 = false := by
        cases hu : u8 with
        | false => rfl
        | true => exact nomatch z.symm.trans ((kF hu).2.2.1)
      have H_kS := hide kS
      have H_c1 := hide c1
      have H_c3 := hide c3
      have H_c4 := hide c4
      have H_c5 := hide c5
      have H_c6 := hide c6
      have H_c7 := hide c7
      have H_kF := hide kF
      clear kS c1 c3 c4 c5 c6 c7 kF
      subst z8_
      subst z
      clear h0 hd
      rw [if_pos (by rfl)]
      go_simp
      exact unhide hK _ _ ⟨u0, u1, true, u3, u4, u5, u6, u7, false, dd, rfl, rfl, unhide H_kS, unhide H_c1, (fun h => rfl), unhide H_c4, unhide H_c5, unhide H_c6, unhide H_c7, (fun h => nomatch h)⟩
    · intro h0 hd K hK
      have z : u3 = false := h0
      have z8_ : u8 = false := by
        cases hu : u8 with
        | false => rfl
        | true => exact nomatch z.symm.trans ((kF hu).2.2.2.1)
      have zd : u2 = true := by
        simp [Region.binds] at hd
        simp [hd]
      have H_kS := hide kS
      have H_c1 := hide c1
      have H_c3 := hide c3
      have H_c4 := hide c4
      have H_c5 := hide c5
      have H_c6 := hide c6
      have H_c7 := hide c7
      have H_kF := hide kF
      clear kS c1 c3 c4 c5 c6 c7 kF
      obtain ⟨rfl⟩ := zd
      subst z8_
      subst z
      clear h0 hd
      rw [if_pos (by rfl)]
      have cc := keep1 (unhide H_kS) (unhide HA)
      go_simp
      exact unhide hK _ _ ⟨u0, u1, true, true, u4, u5, u6, u7, false, dd, rfl, rfl, unhide H_kS, unhide H_c1, (fun _ => rfl), (fun h => ⟨(unhide H_c4 h).1, rfl⟩), unhide H_c5, unhide H_c6, unhide H_c7, (fun h => nomatch h)⟩
    · intro h0 hd K hK
      have z : u4 = false := h0
      have z8_ : u8 = false := by
        cases hu : u8 with
        | false => rfl
        | true => exact nomatch z.symm.trans ((kF hu).2.2.2.2.1)
      have zd : u1 = true ∧ u3 = true := by
        simp [Region.binds] at hd
        simp [hd]
      have H_kS := hide kS
      have H_c1 := hide c1
      have H_c3 := hide c3
      have H_c4 := hide c4
      have H_c5 := hide c5
      have H_c6 := hide c6
      have H_c7 := hide c7
      have H_kF := hide kF
      clear kS c1 c3 c4 c5 c6 c7 kF
      obtain ⟨rfl, rfl⟩ := zd
      subst z8_
      subst z
      clear h0 hd
      rw [if_pos (by rfl)]
      go_simp
      exact unhide hK _ _ ⟨u0, true, u2, true, true, u5, u6, u7, false, dd, rfl, rfl, unhide H_kS, unhide H_c1, unhide H_c3, (fun _ => ⟨rfl, rfl⟩), (fun h => rfl), unhide H_c6, unhide H_c7, (fun h => nomatch h)⟩
    · intro h0 hd K hK
      have z : u5 = false := h0
      have z8_ : u8 = false := by
        cases hu : u8 with
        | false => rfl
        | true => exact nomatch z.symm.trans ((kF hu).2.2.2.2.2.1)
      have zd : u4 = true := by
        simp [Region.binds] at hd
        simp [hd]
      have H_kS := hide kS
      have H_c1 := hide c1
      have H_c3 := hide c3
      have H_c4 := hide c4
      have H_c5 := hide c5
      have H_c6 := hide c6
      have H_c7 := hide c7
      have H_kF := hide kF
      clear kS c1 c3 c4 c5 c6 c7 kF
      obtain ⟨rfl⟩ := zd
      subst z8_
      subst z
      clear h0 hd
      rw [if_pos (by rfl)]
      go_simp
      exact unhide hK _ _ ⟨u0, u1, u2, u3, true, true, u6, u7, false, dd, rfl, rfl, unhide H_kS, unhide H_c1, unhide H_c3, unhide H_c4, (fun _ => rfl), (fun h => rfl), (fun h => ⟨rfl, (unhide H_c7 h).2⟩), (fun h => nomatch h)⟩
    · intro h0 hd K hK
      have z : u6 = false := h0
      have z8_ : u8 = false := by
        cases hu : u8 with
        | false => rfl
        | true => exact nomatch z.symm.trans ((kF hu).2.2.2.2.2.2.1)
      have zd : u5 = true := by
        simp [Region.binds] at hd
        simp [hd]
      have H_kS := hide kS
      have H_c1 := hide c1
      have H_c3 := hide c3
      have H_c4 := hide c4
      have H_c5 := hide c5
      have H_c6 := hide c6
      have H_c7 := hide c7
      have H_kF := hide kF
      clear kS c1 c3 c4 c5 c6 c7 kF
      obtain ⟨rfl⟩ := zd
      subst z8_
      subst z
      clear h0 hd
      rw [if_neg (Bool.eq_false_iff.1 (by rfl))]
      try go_simp
      exact unhide hK _ _ ⟨u0, u1, u2, u3, u4, true, true, u7, false, dd, rfl, rfl, unhide H_kS, unhide H_c1, unhide H_c3, unhide H_c4, unhide H_c5, (fun _ => rfl), (fun h => ⟨rfl, rfl⟩), (fun h => nomatch h)⟩
    · intro h0 hd K hK
      have z : u7 = false := h0
      have z8_ : u8 = false := by
        cases hu : u8 with
        | false => rfl
        | true => exact nomatch z.symm.trans ((kF hu).2.2.2.2.2.2.2)
      have zd : u5 = true ∧ u6 = true := by
        simp [Region.binds] at hd
        simp [hd]
      have H_kS := hide kS
      have H_c1 := hide c1
      have H_c3 := hide c3
      have H_c4 := hide c4
      have H_c5 := hide c5
      have H_c6 := hide c6
      have H_c7 := hide c7
      have H_kF := hide kF
      clear kS c1 c3 c4 c5 c6 c7 kF
      obtain ⟨rfl, rfl⟩ := zd
      subst z8_
      subst z
      clear h0 hd
      rw [if_pos (by rfl)]
      go_simp
      exact unhide hK _ _ ⟨u0, u1, u2, u3, u4, true, true, true, false, dd, rfl, rfl, unhide H_kS, unhide H_c1, unhide H_c3, unhide H_c4, unhide H_c5, (fun h => rfl), (fun _ => ⟨rfl, rfl⟩), (fun h => nomatch h)⟩
    · intro h0 hd K hK
      have z : u8 = false := h0
      have zd : u7 = true ∧ u0 = true ∧ u1 = true ∧ u2 = true ∧ u3 = true ∧ u4 = true ∧ u5 = true ∧ u6 = true := by
        simp [Region.binds] at hd
        simp_all
      have H_kS := hide kS
      have H_c1 := hide c1
      have H_c3 := hide c3
      have H_c4 := hide c4
      have H_c5 := hide c5
      have H_c6 := hide c6
      have H_c7 := hide c7
      have H_kF := hide kF
      clear kS c1 c3 c4 c5 c6 c7 kF
      obtain ⟨rfl, rfl, rfl, rfl, rfl, rfl, rfl, rfl⟩ := zd
      subst z
      clear h0 hd
      rw [if_pos (by rfl)]
      go_simp
      exact unhide hK _ _ ⟨true, true, true, true, true, true, true, true, true, dd, rfl, rfl, unhide H_kS, (fun _ => rfl), (fun _ => rfl), (fun _ => ⟨rfl, rfl⟩), (fun _ => rfl), (fun _ => rfl), (fun _ => ⟨rfl, rfl⟩), (fun _ => ⟨rfl, rfl, rfl, rfl, rfl, rfl, rfl, rfl⟩)⟩
  case hend =>
    rintro Lb A W ⟨u0, u1, u2, u3, u4, u5, u6, u7, u8, dd, rfl, rfl, kS, c1, c3, c4, c5, c6, c7, kF⟩ hL
    have hl : u0 = true ∧ u1 = true ∧ u2 = true ∧ u3 = true ∧ u4 = true ∧ u5 = true ∧ u6 = true ∧ u7 = true ∧ u8 = true := by
      have h2 := congrArg Array.toList hL
      simpa [List.replicate] using h2
    obtain ⟨rfl, rfl, rfl, rfl, rfl, rfl, rfl, rfl, rfl⟩ := hl
    exact unhide HQ _ (kS)

end Go.Proofs.Ytbjljofgpbecbaa
