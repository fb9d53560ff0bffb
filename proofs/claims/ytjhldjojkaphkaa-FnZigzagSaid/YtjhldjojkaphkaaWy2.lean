/-
  Two statements of the way on from a corner, walked alone.
-/
import Derived.Test.YtjhldjojkaphkaaTpP
import Derived.Test.YtjhldjojkaphkaaInv
namespace Go.Proofs.Ytjhldjojkaphkaa
open Go.ChangeShapes Go.WideShapes Go.ChangeAt Go.RowKit
set_option linter.unusedVariables false
set_option linter.unusedSimpArgs false

noncomputable def reg89 (id : Nat) : Go.Code := match Try.f89.body with | some c => (regOf id c).getD .skip | none => .skip
set_option maxHeartbeats 4000000 in
set_option maxRecDepth 100000 in
theorem wy2 {s0 s1 s2 s7 s8 s11 s12 s13 s14 s15 s16 s17 s18 s19 s20 s21 s22 s23 s24 s25 s26 s27 s28 s29 s30 s31 s32 s33 s34 s35 s36 s37 s38 s39 s40 s41 s42 s43 s44 : Value} {b4 b5 b6 b9 b10 W H n c g po : Nat} {x y z v u p1 p2 a1 a2 lx ly : Int} {r : Bool} {V : World} {K_ : Act → World → Prop}
    (H4 : Hid (vb V b4 25 [.int .i64 (W : Int), .int .i64 (H : Int), .slice (some ⟨g, po, none⟩) n c])) (H5 : Hid (vb V b5 46 [.int .i64 x, .int .i64 y])) (H6 : Hid (vb V b6 46 [.int .i64 v, .int .i64 u])) (H9 : Hid (vb V b9 46 [.int .i64 p1, .int .i64 p2]))
    (HP : Hid (∀ X, Below V.heap.size V X → Calls Try.prog 90 #[.agg #[.int .i64 (v), .int .i64 (u)], .agg #[.int .i64 (p1), .int .i64 (p2)]] X fun e w' => e = .returned (.agg #[.int .i64 (a1), .int .i64 (a2)]) ∧ Below X.heap.size X w'))
    (HC : Hid (∀ X, Below V.heap.size V X → Calls Try.prog 99 #[.agg #[.int .i64 (x), .int .i64 (y)], .agg #[.int .i64 (a1), .int .i64 (a2)]] X fun e w' => e = .returned (.agg #[.int .i64 (lx), .int .i64 (ly)]) ∧ Below X.heap.size X w'))
    (HA : Hid (∀ X, Below V.heap.size V X → Calls Try.prog 98 #[.agg #[.int .i64 (W : Int), .int .i64 (H : Int), .slice (some ⟨g, po, none⟩) n c], .agg #[.int .i64 (lx), .int .i64 (ly)], .int .i64 z] X fun e w' => e = .returned (.bool r) ∧ Below X.heap.size X w'))
    (hQ : ∀ (W' : World), Below V.heap.size V W' → K_ { tmps := #[s0, s1, s2, .int .i64 (z), .pointer (some ⟨b4, 0, none⟩), .pointer (some ⟨b5, 0, none⟩), .pointer (some ⟨b6, 0, none⟩), s7, s8, .pointer (some ⟨b9, 0, none⟩), .pointer (some ⟨b10, 0, none⟩), s11, s12, s13, s14, s15, s16, s17, s18, s19, s20, s21, s22, .bool (!r), .agg #[.int .i64 (W : Int), .int .i64 (H : Int), .slice (some ⟨g, po, none⟩) n c], .agg #[.int .i64 (x), .int .i64 (y)], .agg #[.int .i64 (v), .int .i64 (u)], .agg #[.int .i64 (p1), .int .i64 (p2)], .agg #[.int .i64 (a1), .int .i64 (a2)], .agg #[.int .i64 (lx), .int .i64 (ly)], .int .i64 (z), .bool r, .bool (!r), s33, s34, s35, s36, s37, s38, s39, s40, s41, s42, s43, s44], defers := [] } W') :
    Go.Code.wp Try.prog (reg89 2) (Only K_) { tmps := #[s0, s1, s2, .int .i64 (z), .pointer (some ⟨b4, 0, none⟩), .pointer (some ⟨b5, 0, none⟩), .pointer (some ⟨b6, 0, none⟩), s7, s8, .pointer (some ⟨b9, 0, none⟩), .pointer (some ⟨b10, 0, none⟩), s11, s12, s13, s14, s15, s16, s17, s18, s19, s20, s21, s22, s23, s24, s25, s26, s27, s28, s29, s30, s31, s32, s33, s34, s35, s36, s37, s38, s39, s40, s41, s42, s43, s44], defers := [] } V := by
  have HQ := hide hQ
  clear hQ
  conv => arg 2; whnf
  refine wp_region_inv (fun Lb A W_ => ∃ (u0 u1 u2 u3 u4 u5 u6 u7 u8 u9 : Bool) (dd : Nat), Lb = #[u0, u1, u2, u3, u4, u5, u6, u7, u8, u9] ∧ A = ({ tmps := #[s0, s1, s2, .int .i64 (z), .pointer (some ⟨b4, 0, none⟩), .pointer (some ⟨b5, 0, none⟩), .pointer (some ⟨b6, 0, none⟩), s7, s8, .pointer (some ⟨b9, 0, none⟩), .pointer (some ⟨b10, 0, none⟩), s11, s12, s13, s14, s15, s16, s17, s18, s19, s20, s21, s22, (bif u9 then .bool (!r) else s23), (bif u0 then .agg #[.int .i64 (W : Int), .int .i64 (H : Int), .slice (some ⟨g, po, none⟩) n c] else s24), (bif u1 then .agg #[.int .i64 (x), .int .i64 (y)] else s25), (bif u2 then .agg #[.int .i64 (v), .int .i64 (u)] else s26), (bif u3 then .agg #[.int .i64 (p1), .int .i64 (p2)] else s27), (bif u4 then .agg #[.int .i64 (a1), .int .i64 (a2)] else s28), (bif u5 then .agg #[.int .i64 (lx), .int .i64 (ly)] else s29), (bif u6 then .int .i64 (z) else s30), (bif u7 then .bool r else s31), (bif u8 then .bool (!r) else s32), s33, s34, s35, s36, s37, s38, s39, s40, s41, s42, s43, s44], defers := [] } : Act) ∧ Below V.heap.size V W_ ∧ (u4 = true → u2 = true ∧ u3 = true) ∧ (u5 = true → u1 = true ∧ u4 = true) ∧ (u7 = true → u0 = true ∧ u5 = true ∧ u6 = true) ∧ (u8 = true → u7 = true) ∧ (u9 = true → u0 = true ∧ u1 = true ∧ u2 = true ∧ u3 = true ∧ u4 = true ∧ u5 = true ∧ u6 = true ∧ u7 = true ∧ u8 = true)) (by kernel_rfl) (by kernel_rfl) ?h0 ?hstep ?hend
  case h0 =>
    exact ⟨false, false, false, false, false, false, false, false, false, false, 0, rfl, rfl, Below.drew (Below.refl _ _), (fun h => nomatch h), (fun h => nomatch h), (fun h => nomatch h), (fun h => nomatch h), (fun h => nomatch h)⟩
  case hstep =>
    rintro Lb A W_ ⟨u0, u1, u2, u3, u4, u5, u6, u7, u8, u9, dd, rfl, rfl, kS, c4, c5, c7, c8, kF⟩
    refine ⟨?_, ?_, ?_, ?_, ?_, ?_, ?_, ?_, ?_, ?_, trivial⟩
    · intro h0 hd K hK
      have z : u0 = false := h0
      have z9_ : u9 = false := by
        cases hu : u9 with
        | false => rfl
        | true => exact nomatch z.symm.trans ((kF hu).1)
      have H_kS := hide kS
      have H_c4 := hide c4
      have H_c5 := hide c5
      have H_c7 := hide c7
      have H_c8 := hide c8
      have H_kF := hide kF
      clear kS c4 c5 c7 c8 kF
      subst z9_
      subst z
      clear h0 hd
      rw [if_pos (by rfl)]
      have cc0 := keep1 (unhide H_kS) ((unhide H4).cell (m := 0) rfl)
      have cc1 := keep1 (unhide H_kS) ((unhide H4).cell (m := 1) rfl)
      have cc2 := keep1 (unhide H_kS) ((unhide H4).cell (m := 2) rfl)
      go_simp
      exact unhide hK _ _ ⟨true, u1, u2, u3, u4, u5, u6, u7, u8, false, dd, rfl, rfl, unhide H_kS, unhide H_c4, unhide H_c5, (fun h => ⟨rfl, (unhide H_c7 h).2.1, (unhide H_c7 h).2.2⟩), unhide H_c8, (fun h => nomatch h)⟩
    · intro h0 hd K hK
      have z : u1 = false := h0
      have z9_ : u9 = false := by
        cases hu : u9 with
        | false => rfl
        | true => exact nomatch z.symm.trans ((kF hu).2.1)
      have H_kS := hide kS
      have H_c4 := hide c4
      have H_c5 := hide c5
      have H_c7 := hide c7
      have H_c8 := hide c8
      have H_kF := hide kF
      clear kS c4 c5 c7 c8 kF
      subst z9_
      subst z
      clear h0 hd
      rw [if_pos (by rfl)]
      have cc0 := keep1 (unhide H_kS) ((unhide H5).cell (m := 0) rfl)
      have cc1 := keep1 (unhide H_kS) ((unhide H5).cell (m := 1) rfl)
      go_simp
      exact unhide hK _ _ ⟨u0, true, u2, u3, u4, u5, u6, u7, u8, false, dd, rfl, rfl, unhide H_kS, unhide H_c4, (fun h => ⟨rfl, (unhide H_c5 h).2⟩), unhide H_c7, unhide H_c8, (fun h => nomatch h)⟩
    · intro h0 hd K hK
      have z : u2 = false := h0
      have z9_ : u9 = false := by
        cases hu : u9 with
        | false => rfl
        | true => exact nomatch z.symm.trans ((kF hu).2.2.1)
      have H_kS := hide kS
      have H_c4 := hide c4
      have H_c5 := hide c5
      have H_c7 := hide c7
      have H_c8 := hide c8
      have H_kF := hide kF
      clear kS c4 c5 c7 c8 kF
      subst z9_
      subst z
      clear h0 hd
      rw [if_pos (by rfl)]
      have cc0 := keep1 (unhide H_kS) ((unhide H6).cell (m := 0) rfl)
      have cc1 := keep1 (unhide H_kS) ((unhide H6).cell (m := 1) rfl)
      go_simp
      exact unhide hK _ _ ⟨u0, u1, true, u3, u4, u5, u6, u7, u8, false, dd, rfl, rfl, unhide H_kS, (fun h => ⟨rfl, (unhide H_c4 h).2⟩), unhide H_c5, unhide H_c7, unhide H_c8, (fun h => nomatch h)⟩
    · intro h0 hd K hK
      have z : u3 = false := h0
      have z9_ : u9 = false := by
        cases hu : u9 with
        | false => rfl
        | true => exact nomatch z.symm.trans ((kF hu).2.2.2.1)
      have H_kS := hide kS
      have H_c4 := hide c4
      have H_c5 := hide c5
      have H_c7 := hide c7
      have H_c8 := hide c8
      have H_kF := hide kF
      clear kS c4 c5 c7 c8 kF
      subst z9_
      subst z
      clear h0 hd
      rw [if_pos (by rfl)]
      have cc0 := keep1 (unhide H_kS) ((unhide H9).cell (m := 0) rfl)
      have cc1 := keep1 (unhide H_kS) ((unhide H9).cell (m := 1) rfl)
      go_simp
      exact unhide hK _ _ ⟨u0, u1, u2, true, u4, u5, u6, u7, u8, false, dd, rfl, rfl, unhide H_kS, (fun h => ⟨(unhide H_c4 h).1, rfl⟩), unhide H_c5, unhide H_c7, unhide H_c8, (fun h => nomatch h)⟩
    · intro h0 hd K hK
      have z : u4 = false := h0
      have z9_ : u9 = false := by
        cases hu : u9 with
        | false => rfl
        | true => exact nomatch z.symm.trans ((kF hu).2.2.2.2.1)
      have zd : u2 = true ∧ u3 = true := by
        simp [Region.binds] at hd
        simp [hd]
      have H_kS := hide kS
      have H_c4 := hide c4
      have H_c5 := hide c5
      have H_c7 := hide c7
      have H_c8 := hide c8
      have H_kF := hide kF
      clear kS c4 c5 c7 c8 kF
      obtain ⟨rfl, rfl⟩ := zd
      subst z9_
      subst z
      clear h0 hd
      rw [if_pos (by rfl)]
      go_simp
      refine (unhide HP _ (unhide H_kS)).mono ?_
      rintro e w8 ⟨rfl, hb8⟩
      exact unhide hK _ _ ⟨u0, u1, true, true, true, u5, u6, u7, u8, false, dd, rfl, rfl, (bc (unhide H_kS) hb8), (fun _ => ⟨rfl, rfl⟩), (fun h => ⟨(unhide H_c5 h).1, rfl⟩), unhide H_c7, unhide H_c8, (fun h => nomatch h)⟩
    · intro h0 hd K hK
      have z : u5 = false := h0
      have z9_ : u9 = false := by
        cases hu : u9 with
        | false => rfl
        | true => exact nomatch z.symm.trans ((kF hu).2.2.2.2.2.1)
      have zd : u1 = true ∧ u4 = true := by
        simp [Region.binds] at hd
        simp [hd]
      have H_kS := hide kS
      have H_c4 := hide c4
      have H_c5 := hide c5
      have H_c7 := hide c7
      have H_c8 := hide c8
      have H_kF := hide kF
      clear kS c4 c5 c7 c8 kF
      obtain ⟨rfl, rfl⟩ := zd
      subst z9_
      subst z
      clear h0 hd
      rw [if_pos (by rfl)]
      go_simp
      refine (unhide HC _ (unhide H_kS)).mono ?_
      rintro e w8 ⟨rfl, hb8⟩
      exact unhide hK _ _ ⟨u0, true, u2, u3, true, true, u6, u7, u8, false, dd, rfl, rfl, (bc (unhide H_kS) hb8), unhide H_c4, (fun _ => ⟨rfl, rfl⟩), (fun h => ⟨(unhide H_c7 h).1, rfl, (unhide H_c7 h).2.2⟩), unhide H_c8, (fun h => nomatch h)⟩
    · intro h0 hd K hK
      have z : u6 = false := h0
      have z9_ : u9 = false := by
        cases hu : u9 with
        | false => rfl
        | true => exact nomatch z.symm.trans ((kF hu).2.2.2.2.2.2.1)
      have H_kS := hide kS
      have H_c4 := hide c4
      have H_c5 := hide c5
      have H_c7 := hide c7
      have H_c8 := hide c8
      have H_kF := hide kF
      clear kS c4 c5 c7 c8 kF
      subst z9_
      subst z
      clear h0 hd
      rw [if_pos (by rfl)]
      go_simp
      exact unhide hK _ _ ⟨u0, u1, u2, u3, u4, u5, true, u7, u8, false, dd, rfl, rfl, unhide H_kS, unhide H_c4, unhide H_c5, (fun h => ⟨(unhide H_c7 h).1, (unhide H_c7 h).2.1, rfl⟩), unhide H_c8, (fun h => nomatch h)⟩
    · intro h0 hd K hK
      have z : u7 = false := h0
      have z9_ : u9 = false := by
        cases hu : u9 with
        | false => rfl
        | true => exact nomatch z.symm.trans ((kF hu).2.2.2.2.2.2.2.1)
      have zd : u0 = true ∧ u5 = true ∧ u6 = true := by
        simp [Region.binds] at hd
        simp [hd]
      have H_kS := hide kS
      have H_c4 := hide c4
      have H_c5 := hide c5
      have H_c7 := hide c7
      have H_c8 := hide c8
      have H_kF := hide kF
      clear kS c4 c5 c7 c8 kF
      obtain ⟨rfl, rfl, rfl⟩ := zd
      subst z9_
      subst z
      clear h0 hd
      rw [if_pos (by rfl)]
      go_simp
      refine (unhide HA _ (unhide H_kS)).mono ?_
      rintro e w8 ⟨rfl, hb8⟩
      exact unhide hK _ _ ⟨true, u1, u2, u3, u4, true, true, true, u8, false, dd, rfl, rfl, (bc (unhide H_kS) hb8), unhide H_c4, unhide H_c5, (fun _ => ⟨rfl, rfl, rfl⟩), (fun h => rfl), (fun h => nomatch h)⟩
    · intro h0 hd K hK
      have z : u8 = false := h0
      have z9_ : u9 = false := by
        cases hu : u9 with
        | false => rfl
        | true => exact nomatch z.symm.trans ((kF hu).2.2.2.2.2.2.2.2)
      have zd : u7 = true := by
        simp [Region.binds] at hd
        simp [hd]
      have H_kS := hide kS
      have H_c4 := hide c4
      have H_c5 := hide c5
      have H_c7 := hide c7
      have H_c8 := hide c8
      have H_kF := hide kF
      clear kS c4 c5 c7 c8 kF
      obtain ⟨rfl⟩ := zd
      subst z9_
      subst z
      clear h0 hd
      rw [if_pos (by rfl)]
      go_simp
      exact unhide hK _ _ ⟨u0, u1, u2, u3, u4, u5, u6, true, true, false, dd, rfl, rfl, unhide H_kS, unhide H_c4, unhide H_c5, unhide H_c7, (fun _ => rfl), (fun h => nomatch h)⟩
    · intro h0 hd K hK
      have z : u9 = false := h0
      have zd : u8 = true ∧ u0 = true ∧ u1 = true ∧ u2 = true ∧ u3 = true ∧ u4 = true ∧ u5 = true ∧ u6 = true ∧ u7 = true := by
        simp [Region.binds] at hd
        simp_all
      have H_kS := hide kS
      have H_c4 := hide c4
      have H_c5 := hide c5
      have H_c7 := hide c7
      have H_c8 := hide c8
      have H_kF := hide kF
      clear kS c4 c5 c7 c8 kF
      obtain ⟨rfl, rfl, rfl, rfl, rfl, rfl, rfl, rfl, rfl⟩ := zd
      subst z
      clear h0 hd
      rw [if_pos (by rfl)]
      go_simp
      exact unhide hK _ _ ⟨true, true, true, true, true, true, true, true, true, true, dd, rfl, rfl, unhide H_kS, (fun _ => ⟨rfl, rfl⟩), (fun _ => ⟨rfl, rfl⟩), (fun _ => ⟨rfl, rfl, rfl⟩), (fun _ => rfl), (fun _ => ⟨rfl, rfl, rfl, rfl, rfl, rfl, rfl, rfl, rfl⟩)⟩
  case hend =>
    rintro Lb A W_ ⟨u0, u1, u2, u3, u4, u5, u6, u7, u8, u9, dd, rfl, rfl, kS, c4, c5, c7, c8, kF⟩ hL
    have hl : u0 = true ∧ u1 = true ∧ u2 = true ∧ u3 = true ∧ u4 = true ∧ u5 = true ∧ u6 = true ∧ u7 = true ∧ u8 = true ∧ u9 = true := by
      have h2 := congrArg Array.toList hL
      simpa [List.replicate] using h2
    obtain ⟨rfl, rfl, rfl, rfl, rfl, rfl, rfl, rfl, rfl, rfl⟩ := hl
    exact unhide HQ _ (kS)
set_option maxHeartbeats 4000000 in
set_option maxRecDepth 100000 in
theorem wy4 {s0 s1 s2 s7 s8 s11 s12 s13 s14 s15 s16 s17 s18 s19 s20 s21 s22 s23 s24 s25 s26 s27 s28 s29 s30 s31 s32 s33 s34 s35 s36 s37 s38 s39 s40 s41 s42 s43 s44 : Value} {b4 b5 b6 b9 b10 W H n c g po : Nat} {x y z v u p1 p2 a1 a2 lx ly : Int} {r : Bool} {V : World} {K_ : Act → World → Prop}
    (H4 : Hid (vb V b4 25 [.int .i64 (W : Int), .int .i64 (H : Int), .slice (some ⟨g, po, none⟩) n c])) (H5 : Hid (vb V b5 46 [.int .i64 x, .int .i64 y])) (H6 : Hid (vb V b6 46 [.int .i64 v, .int .i64 u])) (H9 : Hid (vb V b10 46 [.int .i64 p1, .int .i64 p2]))
    (HP : Hid (∀ X, Below V.heap.size V X → Calls Try.prog 90 #[.agg #[.int .i64 (v), .int .i64 (u)], .agg #[.int .i64 (p1), .int .i64 (p2)]] X fun e w' => e = .returned (.agg #[.int .i64 (a1), .int .i64 (a2)]) ∧ Below X.heap.size X w'))
    (HC : Hid (∀ X, Below V.heap.size V X → Calls Try.prog 99 #[.agg #[.int .i64 (x), .int .i64 (y)], .agg #[.int .i64 (a1), .int .i64 (a2)]] X fun e w' => e = .returned (.agg #[.int .i64 (lx), .int .i64 (ly)]) ∧ Below X.heap.size X w'))
    (HA : Hid (∀ X, Below V.heap.size V X → Calls Try.prog 98 #[.agg #[.int .i64 (W : Int), .int .i64 (H : Int), .slice (some ⟨g, po, none⟩) n c], .agg #[.int .i64 (lx), .int .i64 (ly)], .int .i64 z] X fun e w' => e = .returned (.bool r) ∧ Below X.heap.size X w'))
    (hQ : ∀ (W' : World), Below V.heap.size V W' → K_ { tmps := #[s0, s1, s2, .int .i64 (z), .pointer (some ⟨b4, 0, none⟩), .pointer (some ⟨b5, 0, none⟩), .pointer (some ⟨b6, 0, none⟩), s7, s8, .pointer (some ⟨b9, 0, none⟩), .pointer (some ⟨b10, 0, none⟩), s11, s12, s13, s14, s15, s16, s17, s18, s19, s20, s21, s22, s23, s24, s25, s26, s27, s28, s29, s30, s31, s32, s33, .bool r, .agg #[.int .i64 (W : Int), .int .i64 (H : Int), .slice (some ⟨g, po, none⟩) n c], .agg #[.int .i64 (x), .int .i64 (y)], .agg #[.int .i64 (v), .int .i64 (u)], .agg #[.int .i64 (p1), .int .i64 (p2)], .agg #[.int .i64 (a1), .int .i64 (a2)], .agg #[.int .i64 (lx), .int .i64 (ly)], .int .i64 (z), .bool r, s43, s44], defers := [] } W') :
    Go.Code.wp Try.prog (reg89 4) (Only K_) { tmps := #[s0, s1, s2, .int .i64 (z), .pointer (some ⟨b4, 0, none⟩), .pointer (some ⟨b5, 0, none⟩), .pointer (some ⟨b6, 0, none⟩), s7, s8, .pointer (some ⟨b9, 0, none⟩), .pointer (some ⟨b10, 0, none⟩), s11, s12, s13, s14, s15, s16, s17, s18, s19, s20, s21, s22, s23, s24, s25, s26, s27, s28, s29, s30, s31, s32, s33, s34, s35, s36, s37, s38, s39, s40, s41, s42, s43, s44], defers := [] } V := by
  have HQ := hide hQ
  clear hQ
  conv => arg 2; whnf
  refine wp_region_inv (fun Lb A W_ => ∃ (u0 u1 u2 u3 u4 u5 u6 u7 u8 : Bool) (dd : Nat), Lb = #[u0, u1, u2, u3, u4, u5, u6, u7, u8] ∧ A = ({ tmps := #[s0, s1, s2, .int .i64 (z), .pointer (some ⟨b4, 0, none⟩), .pointer (some ⟨b5, 0, none⟩), .pointer (some ⟨b6, 0, none⟩), s7, s8, .pointer (some ⟨b9, 0, none⟩), .pointer (some ⟨b10, 0, none⟩), s11, s12, s13, s14, s15, s16, s17, s18, s19, s20, s21, s22, s23, s24, s25, s26, s27, s28, s29, s30, s31, s32, s33, (bif u8 then .bool r else s34), (bif u0 then .agg #[.int .i64 (W : Int), .int .i64 (H : Int), .slice (some ⟨g, po, none⟩) n c] else s35), (bif u1 then .agg #[.int .i64 (x), .int .i64 (y)] else s36), (bif u2 then .agg #[.int .i64 (v), .int .i64 (u)] else s37), (bif u3 then .agg #[.int .i64 (p1), .int .i64 (p2)] else s38), (bif u4 then .agg #[.int .i64 (a1), .int .i64 (a2)] else s39), (bif u5 then .agg #[.int .i64 (lx), .int .i64 (ly)] else s40), (bif u6 then .int .i64 (z) else s41), (bif u7 then .bool r else s42), s43, s44], defers := [] } : Act) ∧ Below V.heap.size V W_ ∧ (u4 = true → u2 = true ∧ u3 = true) ∧ (u5 = true → u1 = true ∧ u4 = true) ∧ (u7 = true → u0 = true ∧ u5 = true ∧ u6 = true) ∧ (u8 = true → u0 = true ∧ u1 = true ∧ u2 = true ∧ u3 = true ∧ u4 = true ∧ u5 = true ∧ u6 = true ∧ u7 = true)) (by kernel_rfl) (by kernel_rfl) ?h0 ?hstep ?hend
  case h0 =>
    exact ⟨false, false, false, false, false, false, false, false, false, 0, rfl, rfl, Below.drew (Below.refl _ _), (fun h => nomatch h), (fun h => nomatch h), (fun h => nomatch h), (fun h => nomatch h)⟩
  case hstep =>
    rintro Lb A W_ ⟨u0, u1, u2, u3, u4, u5, u6, u7, u8, dd, rfl, rfl, kS, c4, c5, c7, kF⟩
    refine ⟨?_, ?_, ?_, ?_, ?_, ?_, ?_, ?_, ?_, trivial⟩
    · intro h0 hd K hK
      have z : u0 = false := h0
      have z8_ : u8 = false := by
        cases hu : u8 with
        | false => rfl
        | true => exact nomatch z.symm.trans ((kF hu).1)
      have H_kS := hide kS
      have H_c4 := hide c4
      have H_c5 := hide c5
      have H_c7 := hide c7
      have H_kF := hide kF
      clear kS c4 c5 c7 kF
      subst z8_
      subst z
      clear h0 hd
      rw [if_pos (by rfl)]
      have cc0 := keep1 (unhide H_kS) ((unhide H4).cell (m := 0) rfl)
      have cc1 := keep1 (unhide H_kS) ((unhide H4).cell (m := 1) rfl)
      have cc2 := keep1 (unhide H_kS) ((unhide H4).cell (m := 2) rfl)
      go_simp
      exact unhide hK _ _ ⟨true, u1, u2, u3, u4, u5, u6, u7, false, dd, rfl, rfl, unhide H_kS, unhide H_c4, unhide H_c5, (fun h => ⟨rfl, (unhide H_c7 h).2.1, (unhide H_c7 h).2.2⟩), (fun h => nomatch h)⟩
    · intro h0 hd K hK
      have z : u1 = false := h0
      have z8_ : u8 = false := by
        cases hu : u8 with
        | false => rfl
        | true => exact nomatch z.symm.trans ((kF hu).2.1)
      have H_kS := hide kS
      have H_c4 := hide c4
      have H_c5 := hide c5
      have H_c7 := hide c7
      have H_kF := hide kF
      clear kS c4 c5 c7 kF
      subst z8_
      subst z
      clear h0 hd
      rw [if_pos (by rfl)]
      have cc0 := keep1 (unhide H_kS) ((unhide H5).cell (m := 0) rfl)
      have cc1 := keep1 (unhide H_kS) ((unhide H5).cell (m := 1) rfl)
      go_simp
      exact unhide hK _ _ ⟨u0, true, u2, u3, u4, u5, u6, u7, false, dd, rfl, rfl, unhide H_kS, unhide H_c4, (fun h => ⟨rfl, (unhide H_c5 h).2⟩), unhide H_c7, (fun h => nomatch h)⟩
    · intro h0 hd K hK
      have z : u2 = false := h0
      have z8_ : u8 = false := by
        cases hu : u8 with
        | false => rfl
        | true => exact nomatch z.symm.trans ((kF hu).2.2.1)
      have H_kS := hide kS
      have H_c4 := hide c4
      have H_c5 := hide c5
      have H_c7 := hide c7
      have H_kF := hide kF
      clear kS c4 c5 c7 kF
      subst z8_
      subst z
      clear h0 hd
      rw [if_pos (by rfl)]
      have cc0 := keep1 (unhide H_kS) ((unhide H6).cell (m := 0) rfl)
      have cc1 := keep1 (unhide H_kS) ((unhide H6).cell (m := 1) rfl)
      go_simp
      exact unhide hK _ _ ⟨u0, u1, true, u3, u4, u5, u6, u7, false, dd, rfl, rfl, unhide H_kS, (fun h => ⟨rfl, (unhide H_c4 h).2⟩), unhide H_c5, unhide H_c7, (fun h => nomatch h)⟩
    · intro h0 hd K hK
      have z : u3 = false := h0
      have z8_ : u8 = false := by
        cases hu : u8 with
        | false => rfl
        | true => exact nomatch z.symm.trans ((kF hu).2.2.2.1)
      have H_kS := hide kS
      have H_c4 := hide c4
      have H_c5 := hide c5
      have H_c7 := hide c7
      have H_kF := hide kF
      clear kS c4 c5 c7 kF
      subst z8_
      subst z
      clear h0 hd
      rw [if_pos (by rfl)]
      have cc0 := keep1 (unhide H_kS) ((unhide H9).cell (m := 0) rfl)
      have cc1 := keep1 (unhide H_kS) ((unhide H9).cell (m := 1) rfl)
      go_simp
      exact unhide hK _ _ ⟨u0, u1, u2, true, u4, u5, u6, u7, false, dd, rfl, rfl, unhide H_kS, (fun h => ⟨(unhide H_c4 h).1, rfl⟩), unhide H_c5, unhide H_c7, (fun h => nomatch h)⟩
    · intro h0 hd K hK
      have z : u4 = false := h0
      have z8_ : u8 = false := by
        cases hu : u8 with
        | false => rfl
        | true => exact nomatch z.symm.trans ((kF hu).2.2.2.2.1)
      have zd : u2 = true ∧ u3 = true := by
        simp [Region.binds] at hd
        simp [hd]
      have H_kS := hide kS
      have H_c4 := hide c4
      have H_c5 := hide c5
      have H_c7 := hide c7
      have H_kF := hide kF
      clear kS c4 c5 c7 kF
      obtain ⟨rfl, rfl⟩ := zd
      subst z8_
      subst z
      clear h0 hd
      rw [if_pos (by rfl)]
      go_simp
      refine (unhide HP _ (unhide H_kS)).mono ?_
      rintro e w8 ⟨rfl, hb8⟩
      exact unhide hK _ _ ⟨u0, u1, true, true, true, u5, u6, u7, false, dd, rfl, rfl, (bc (unhide H_kS) hb8), (fun _ => ⟨rfl, rfl⟩), (fun h => ⟨(unhide H_c5 h).1, rfl⟩), unhide H_c7, (fun h => nomatch h)⟩
    · intro h0 hd K hK
      have z : u5 = false := h0
      have z8_ : u8 = false := by
        cases hu : u8 with
        | false => rfl
        | true => exact nomatch z.symm.trans ((kF hu).2.2.2.2.2.1)
      have zd : u1 = true ∧ u4 = true := by
        simp [Region.binds] at hd
        simp [hd]
      have H_kS := hide kS
      have H_c4 := hide c4
      have H_c5 := hide c5
      have H_c7 := hide c7
      have H_kF := hide kF
      clear kS c4 c5 c7 kF
      obtain ⟨rfl, rfl⟩ := zd
      subst z8_
      subst z
      clear h0 hd
      rw [if_pos (by rfl)]
      go_simp
      refine (unhide HC _ (unhide H_kS)).mono ?_
      rintro e w8 ⟨rfl, hb8⟩
      exact unhide hK _ _ ⟨u0, true, u2, u3, true, true, u6, u7, false, dd, rfl, rfl, (bc (unhide H_kS) hb8), unhide H_c4, (fun _ => ⟨rfl, rfl⟩), (fun h => ⟨(unhide H_c7 h).1, rfl, (unhide H_c7 h).2.2⟩), (fun h => nomatch h)⟩
    · intro h0 hd K hK
      have z : u6 = false := h0
      have z8_ : u8 = false := by
        cases hu : u8 with
        | false => rfl
        | true => exact nomatch z.symm.trans ((kF hu).2.2.2.2.2.2.1)
      have H_kS := hide kS
      have H_c4 := hide c4
      have H_c5 := hide c5
      have H_c7 := hide c7
      have H_kF := hide kF
      clear kS c4 c5 c7 kF
      subst z8_
      subst z
      clear h0 hd
      rw [if_pos (by rfl)]
      go_simp
      exact unhide hK _ _ ⟨u0, u1, u2, u3, u4, u5, true, u7, false, dd, rfl, rfl, unhide H_kS, unhide H_c4, unhide H_c5, (fun h => ⟨(unhide H_c7 h).1, (unhide H_c7 h).2.1, rfl⟩), (fun h => nomatch h)⟩
    · intro h0 hd K hK
      have z : u7 = false := h0
      have z8_ : u8 = false := by
        cases hu : u8 with
        | false => rfl
        | true => exact nomatch z.symm.trans ((kF hu).2.2.2.2.2.2.2)
      have zd : u0 = true ∧ u5 = true ∧ u6 = true := by
        simp [Region.binds] at hd
        simp [hd]
      have H_kS := hide kS
      have H_c4 := hide c4
      have H_c5 := hide c5
      have H_c7 := hide c7
      have H_kF := hide kF
      clear kS c4 c5 c7 kF
      obtain ⟨rfl, rfl, rfl⟩ := zd
      subst z8_
      subst z
      clear h0 hd
      rw [if_pos (by rfl)]
      go_simp
      refine (unhide HA _ (unhide H_kS)).mono ?_
      rintro e w8 ⟨rfl, hb8⟩
      exact unhide hK _ _ ⟨true, u1, u2, u3, u4, true, true, true, false, dd, rfl, rfl, (bc (unhide H_kS) hb8), unhide H_c4, unhide H_c5, (fun _ => ⟨rfl, rfl, rfl⟩), (fun h => nomatch h)⟩
    · intro h0 hd K hK
      have z : u8 = false := h0
      have zd : u7 = true ∧ u0 = true ∧ u1 = true ∧ u2 = true ∧ u3 = true ∧ u4 = true ∧ u5 = true ∧ u6 = true := by
        simp [Region.binds] at hd
        simp_all
      have H_kS := hide kS
      have H_c4 := hide c4
      have H_c5 := hide c5
      have H_c7 := hide c7
      have H_kF := hide kF
      clear kS c4 c5 c7 kF
      obtain ⟨rfl, rfl, rfl, rfl, rfl, rfl, rfl, rfl⟩ := zd
      subst z
      clear h0 hd
      rw [if_pos (by rfl)]
      go_simp
      exact unhide hK _ _ ⟨true, true, true, true, true, true, true, true, true, dd, rfl, rfl, unhide H_kS, (fun _ => ⟨rfl, rfl⟩), (fun _ => ⟨rfl, rfl⟩), (fun _ => ⟨rfl, rfl, rfl⟩), (fun _ => ⟨rfl, rfl, rfl, rfl, rfl, rfl, rfl, rfl⟩)⟩
  case hend =>
    rintro Lb A W_ ⟨u0, u1, u2, u3, u4, u5, u6, u7, u8, dd, rfl, rfl, kS, c4, c5, c7, kF⟩ hL
    have hl : u0 = true ∧ u1 = true ∧ u2 = true ∧ u3 = true ∧ u4 = true ∧ u5 = true ∧ u6 = true ∧ u7 = true ∧ u8 = true := by
      have h2 := congrArg Array.toList hL
      simpa [List.replicate] using h2
    obtain ⟨rfl, rfl, rfl, rfl, rfl, rfl, rfl, rfl, rfl⟩ := hl
    exact unhide HQ _ (kS)
end Go.Proofs.Ytjhldjojkaphkaa
