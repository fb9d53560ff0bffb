/-
  A statement of the iterator over places, walked alone: one candidate of a level.
-/
import Derived.Test.YtjhldjojkaphkaaInvF
import Derived.Test.YtjhldjojkaphkaaPlc
import Derived.Test.YtjhldjojkaphkaaTpP
namespace Go.Proofs.Ytjhldjojkaphkaa
open Go.ChangeShapes Go.WideShapes Go.ChangeAt Go.RowKit Go.Shelf
attribute [local go_sem] Oper.semAt_some
set_option linter.unusedVariables false
set_option linter.unusedSimpArgs false

noncomputable def regOfR (id : Nat) : Go.Code → Option Go.Code
  | .region i ops b => if i = id then some (.region i ops b) else none
  | .seq a b => match regOfR id a with | some c => some c | none => regOfR id b
  | .cond _ a b => match regOfR id a with | some c => some c | none => regOfR id b
  | .block _ c => regOfR id c
  | .loop c => regOfR id c
  | .scope c => regOfR id c
  | .rangeFunc _ _ a b => match regOfR id a with | some c => some c | none => regOfR id b
  | _ => none
noncomputable def reg74 (id : Nat) : Go.Code := match Try.f74.body with | some c => (regOfR id c).getD .skip | none => .skip
set_option maxHeartbeats 4000000 in
set_option maxRecDepth 100000 in
theorem st5a {s0 s1 s6 s7 s8 s9 s10 s11 s12 s13 s14 s15 s16 s17 s18 s19 s20 s21 s22 s23 s24 s25 s26 s27 s28 s29 s30 s31 s32 s33 s34 s35 s36 s37 s38 s39 s40 s41 s42 s43 s44 s45 s46 s47 s48 s49 s50 s51 s52 s53 s54 : Value} {l l' by_ Bf b4 b5 W H n c g po : Nat} {x y z t : Int} {Pst : Bool → World → Prop} {V : World} {K_ : Act → World → Prop}
    (HF : Hid (vb V Bf 25 [.int .i64 (W : Int), .int .i64 (H : Int), .slice (some ⟨g, po, none⟩) n c])) (H4 : Hid (vb V b4 3 [.int .i64 z])) (H5 : Hid (vb V b5 46 [.int .i64 x, .int .i64 y]))
    (HT : Hid (∀ X, Below V.heap.size V X → Calls Try.prog 52 #[.agg #[.int .i64 (W : Int), .int .i64 (H : Int), .slice (some ⟨g, po, none⟩) n c], .agg #[.int .i64 (x), .int .i64 (y)]] X fun e w' => e = .returned (.int .i64 t) ∧ Below X.heap.size X w'))
    (hle : t ≤ z) (HY : Hid (vb V by_ 106 [.func (.yield l) #[] #[]]))
    (HD : Hid (∀ X, Below V.heap.size V X → YieldAt Fence.wide 0 Try.prog l #[.agg #[.int .i64 (x), .int .i64 (y), .int .i64 (z)]] X fun e W' => ∃ r, e = .returned (.bool r) ∧ Pst r W'))
    (hQ : ∀ (r : Bool) (W' : World), Pst r W' → K_ { tmps := #[s0, s1, .pointer (some ⟨Bf, 0, none⟩), .pointer (some ⟨by_, 0, none⟩), .pointer (some ⟨b4, 0, none⟩), .pointer (some ⟨b5, 0, none⟩), s6, s7, s8, s9, s10, s11, s12, s13, s14, .agg #[.int .i64 (W : Int), .int .i64 (H : Int), .slice (some ⟨g, po, none⟩) n c], .agg #[.int .i64 (x), .int .i64 (y)], .int .i64 (t), .int .i64 (z), .bool true, .bool true, .func (.yield l) #[] #[], .pointer (some ⟨b5, 0, none⟩), .int .i64 (x), .pointer (some ⟨b5, 1, none⟩), .int .i64 (y), .int .i64 (z), .agg #[.int .i64 (x), .int .i64 (y), .int .i64 (z)], .bool r, .bool (!r), .bool (!r), s31, s32, s33, s34, s35, s36, s37, s38, s39, s40, s41, s42, s43, s44, s45, s46, s47, s48, s49, s50, s51, s52, s53, s54], defers := [] } W') :
    Go.Code.wpIn (Fence.wide.inRound l') 0 Try.prog (reg74 5) (Only K_) { tmps := #[s0, s1, .pointer (some ⟨Bf, 0, none⟩), .pointer (some ⟨by_, 0, none⟩), .pointer (some ⟨b4, 0, none⟩), .pointer (some ⟨b5, 0, none⟩), s6, s7, s8, s9, s10, s11, s12, s13, s14, s15, s16, s17, s18, s19, s20, s21, s22, s23, s24, s25, s26, s27, s28, s29, s30, s31, s32, s33, s34, s35, s36, s37, s38, s39, s40, s41, s42, s43, s44, s45, s46, s47, s48, s49, s50, s51, s52, s53, s54], defers := [] } V := by
  have HQ := hide hQ
  have tt := decide_eq_true hle
  clear hQ hle
  conv => arg 4; whnf
  refine wpIn_region_inv (fun Lb A W_ => ∃ (u0 u1 u2 u3 u4 u5 u6 u7 u8 u9 u10 u11 u12 u13 u14 u15 : Bool) (r : Bool), Lb = #[u0, u1, u2, u3, u4, u5, u6, u7, u8, u9, u10, u11, u12, u13, u14, u15] ∧ A = ({ tmps := #[s0, s1, .pointer (some ⟨Bf, 0, none⟩), .pointer (some ⟨by_, 0, none⟩), .pointer (some ⟨b4, 0, none⟩), .pointer (some ⟨b5, 0, none⟩), s6, s7, s8, s9, s10, s11, s12, s13, s14, (bif u0 then .agg #[.int .i64 (W : Int), .int .i64 (H : Int), .slice (some ⟨g, po, none⟩) n c] else s15), (bif u1 then .agg #[.int .i64 (x), .int .i64 (y)] else s16), (bif u2 then .int .i64 (t) else s17), (bif u3 then .int .i64 (z) else s18), (bif u4 then .bool true else s19), (bif u5 then .bool true else s20), (bif u6 then .func (.yield l) #[] #[] else s21), (bif u7 then .pointer (some ⟨b5, 0, none⟩) else s22), (bif u8 then .int .i64 (x) else s23), (bif u9 then .pointer (some ⟨b5, 1, none⟩) else s24), (bif u10 then .int .i64 (y) else s25), (bif u11 then .int .i64 (z) else s26), (bif u12 then .agg #[.int .i64 (x), .int .i64 (y), .int .i64 (z)] else s27), (bif u13 then .bool r else s28), (bif u14 then .bool (!r) else s29), (bif u15 then .bool (!r) else s30), s31, s32, s33, s34, s35, s36, s37, s38, s39, s40, s41, s42, s43, s44, s45, s46, s47, s48, s49, s50, s51, s52, s53, s54], defers := [] } : Act) ∧ (u13 = false → Below V.heap.size V W_) ∧ (u13 = true → Pst r W_) ∧ (u2 = true → u0 = true ∧ u1 = true) ∧ (u4 = true → u2 = true ∧ u3 = true) ∧ (u5 = true → u4 = true) ∧ (u6 = true → u5 = true) ∧ (u7 = true → u5 = true) ∧ (u8 = true → u5 = true ∧ u7 = true) ∧ (u9 = true → u5 = true) ∧ (u10 = true → u5 = true ∧ u9 = true) ∧ (u11 = true → u5 = true) ∧ (u12 = true → u5 = true ∧ u8 = true ∧ u10 = true ∧ u11 = true) ∧ (u13 = true → u5 = true ∧ u6 = true ∧ u12 = true) ∧ (u14 = true → u5 = true ∧ u13 = true) ∧ (u15 = true → u0 = true ∧ u1 = true ∧ u2 = true ∧ u3 = true ∧ u4 = true ∧ u5 = true ∧ u6 = true ∧ u7 = true ∧ u8 = true ∧ u9 = true ∧ u10 = true ∧ u11 = true ∧ u12 = true ∧ u13 = true ∧ u14 = true)) (by kernel_rfl) (by kernel_rfl) ?h0 ?hstep ?hend
  case h0 =>
    exact ⟨false, false, false, false, false, false, false, false, false, false, false, false, false, false, false, false, false, rfl, rfl, (fun _ => Below.drew (Below.refl _ _)), (fun h => nomatch h), (fun h => nomatch h), (fun h => nomatch h), (fun h => nomatch h), (fun h => nomatch h), (fun h => nomatch h), (fun h => nomatch h), (fun h => nomatch h), (fun h => nomatch h), (fun h => nomatch h), (fun h => nomatch h), (fun h => nomatch h), (fun h => nomatch h), (fun h => nomatch h)⟩
  case hstep =>
    rintro Lb A W_ ⟨u0, u1, u2, u3, u4, u5, u6, u7, u8, u9, u10, u11, u12, u13, u14, u15, r, rfl, rfl, kS, kR, c2, c4, c5, c6, c7, c8, c9, c10, c11, c12, c13, c14, kF⟩
    refine ⟨?_, ?_, ?_, ?_, ?_, ?_, ?_, ?_, ?_, ?_, ?_, ?_, ?_, ?_, ?_, ?_, trivial⟩
    · intro h0 hd K hK
      have z : u0 = false := h0
      have z15_ : u15 = false := by
        cases hu : u15 with
        | false => rfl
        | true => exact nomatch z.symm.trans ((kF hu).1)
      have z13_ : u13 = false := by
        cases hu : u13 with
        | false => rfl
        | true => exact nomatch z.symm.trans ((c2 (c4 (c5 (c13 hu).1)).1).1)
      have H_kS := hide kS
      have H_kR := hide kR
      have H_c2 := hide c2
      have H_c4 := hide c4
      have H_c5 := hide c5
      have H_c6 := hide c6
      have H_c7 := hide c7
      have H_c8 := hide c8
      have H_c9 := hide c9
      have H_c10 := hide c10
      have H_c11 := hide c11
      have H_c12 := hide c12
      have H_c13 := hide c13
      have H_c14 := hide c14
      have H_kF := hide kF
      clear kS kR c2 c4 c5 c6 c7 c8 c9 c10 c11 c12 c13 c14 kF
      subst z15_
      subst z13_
      subst z
      clear h0 hd
      rw [if_pos (by rfl)]
      have cc0 := keep1 (unhide H_kS rfl) ((unhide HF).cell (m := 0) rfl)
      have cc1 := keep1 (unhide H_kS rfl) ((unhide HF).cell (m := 1) rfl)
      have cc2 := keep1 (unhide H_kS rfl) ((unhide HF).cell (m := 2) rfl)
      (unfold Oper.wpIn; refine ⟨fun _ _ => trivial, ?_⟩; go_simp)
      exact unhide hK _ _ ⟨true, u1, u2, u3, u4, u5, u6, u7, u8, u9, u10, u11, u12, false, u14, false, r, rfl, rfl, unhide H_kS, (fun h => nomatch h), (fun h => ⟨rfl, (unhide H_c2 h).2⟩), unhide H_c4, unhide H_c5, unhide H_c6, unhide H_c7, unhide H_c8, unhide H_c9, unhide H_c10, unhide H_c11, unhide H_c12, (fun h => nomatch h), unhide H_c14, (fun h => nomatch h)⟩
    · intro h0 hd K hK
      have z : u1 = false := h0
      have z15_ : u15 = false := by
        cases hu : u15 with
        | false => rfl
        | true => exact nomatch z.symm.trans ((kF hu).2.1)
      have z13_ : u13 = false := by
        cases hu : u13 with
        | false => rfl
        | true => exact nomatch z.symm.trans ((c2 (c4 (c5 (c13 hu).1)).1).2)
      have H_kS := hide kS
      have H_kR := hide kR
      have H_c2 := hide c2
      have H_c4 := hide c4
      have H_c5 := hide c5
      have H_c6 := hide c6
      have H_c7 := hide c7
      have H_c8 := hide c8
      have H_c9 := hide c9
      have H_c10 := hide c10
      have H_c11 := hide c11
      have H_c12 := hide c12
      have H_c13 := hide c13
      have H_c14 := hide c14
      have H_kF := hide kF
      clear kS kR c2 c4 c5 c6 c7 c8 c9 c10 c11 c12 c13 c14 kF
      subst z15_
      subst z13_
      subst z
      clear h0 hd
      rw [if_pos (by rfl)]
      have cc0 := keep1 (unhide H_kS rfl) ((unhide H5).cell (m := 0) rfl)
      have cc1 := keep1 (unhide H_kS rfl) ((unhide H5).cell (m := 1) rfl)
      (unfold Oper.wpIn; refine ⟨fun _ _ => trivial, ?_⟩; go_simp)
      exact unhide hK _ _ ⟨u0, true, u2, u3, u4, u5, u6, u7, u8, u9, u10, u11, u12, false, u14, false, r, rfl, rfl, unhide H_kS, (fun h => nomatch h), (fun h => ⟨(unhide H_c2 h).1, rfl⟩), unhide H_c4, unhide H_c5, unhide H_c6, unhide H_c7, unhide H_c8, unhide H_c9, unhide H_c10, unhide H_c11, unhide H_c12, (fun h => nomatch h), unhide H_c14, (fun h => nomatch h)⟩
    · intro h0 hd K hK
      have z : u2 = false := h0
      have z15_ : u15 = false := by
        cases hu : u15 with
        | false => rfl
        | true => exact nomatch z.symm.trans ((kF hu).2.2.1)
      have z13_ : u13 = false := by
        cases hu : u13 with
        | false => rfl
        | true => exact nomatch z.symm.trans ((c4 (c5 (c13 hu).1)).1)
      have zd : u0 = true ∧ u1 = true := by
        simp [Region.binds] at hd
        simp [hd]
      have H_kS := hide kS
      have H_kR := hide kR
      have H_c2 := hide c2
      have H_c4 := hide c4
      have H_c5 := hide c5
      have H_c6 := hide c6
      have H_c7 := hide c7
      have H_c8 := hide c8
      have H_c9 := hide c9
      have H_c10 := hide c10
      have H_c11 := hide c11
      have H_c12 := hide c12
      have H_c13 := hide c13
      have H_c14 := hide c14
      have H_kF := hide kF
      clear kS kR c2 c4 c5 c6 c7 c8 c9 c10 c11 c12 c13 c14 kF
      obtain ⟨rfl, rfl⟩ := zd
      subst z15_
      subst z13_
      subst z
      clear h0 hd
      rw [if_pos (by rfl)]
      (unfold Oper.wpIn; refine ⟨fun _ _ => trivial, ?_⟩; go_simp)
      refine ⟨by first | rfl | trivial | (intro h; cases h), (CallsIn.inRound l' (callsIn_wide.2 (unhide HT _ (unhide H_kS rfl)))).mono ?_⟩
      rintro e w8 ⟨rfl, hb8⟩
      exact unhide hK _ _ ⟨true, true, true, u3, u4, u5, u6, u7, u8, u9, u10, u11, u12, false, u14, false, r, rfl, rfl, (fun _ => bc (unhide H_kS rfl) hb8), (fun h => nomatch h), (fun _ => ⟨rfl, rfl⟩), (fun h => ⟨rfl, (unhide H_c4 h).2⟩), unhide H_c5, unhide H_c6, unhide H_c7, unhide H_c8, unhide H_c9, unhide H_c10, unhide H_c11, unhide H_c12, (fun h => nomatch h), unhide H_c14, (fun h => nomatch h)⟩
    · intro h0 hd K hK
      have z : u3 = false := h0
      have z15_ : u15 = false := by
        cases hu : u15 with
        | false => rfl
        | true => exact nomatch z.symm.trans ((kF hu).2.2.2.1)
      have z13_ : u13 = false := by
        cases hu : u13 with
        | false => rfl
        | true => exact nomatch z.symm.trans ((c4 (c5 (c13 hu).1)).2)
      have H_kS := hide kS
      have H_kR := hide kR
      have H_c2 := hide c2
      have H_c4 := hide c4
      have H_c5 := hide c5
      have H_c6 := hide c6
      have H_c7 := hide c7
      have H_c8 := hide c8
      have H_c9 := hide c9
      have H_c10 := hide c10
      have H_c11 := hide c11
      have H_c12 := hide c12
      have H_c13 := hide c13
      have H_c14 := hide c14
      have H_kF := hide kF
      clear kS kR c2 c4 c5 c6 c7 c8 c9 c10 c11 c12 c13 c14 kF
      subst z15_
      subst z13_
      subst z
      clear h0 hd
      rw [if_pos (by rfl)]
      have cc0 := keep1 (unhide H_kS rfl) ((unhide H4).cell (m := 0) rfl)
      (unfold Oper.wpIn; refine ⟨fun _ _ => trivial, ?_⟩; go_simp)
      exact unhide hK _ _ ⟨u0, u1, u2, true, u4, u5, u6, u7, u8, u9, u10, u11, u12, false, u14, false, r, rfl, rfl, unhide H_kS, (fun h => nomatch h), unhide H_c2, (fun h => ⟨(unhide H_c4 h).1, rfl⟩), unhide H_c5, unhide H_c6, unhide H_c7, unhide H_c8, unhide H_c9, unhide H_c10, unhide H_c11, unhide H_c12, (fun h => nomatch h), unhide H_c14, (fun h => nomatch h)⟩
    · intro h0 hd K hK
      have z : u4 = false := h0
      have z15_ : u15 = false := by
        cases hu : u15 with
        | false => rfl
        | true => exact nomatch z.symm.trans ((kF hu).2.2.2.2.1)
      have z13_ : u13 = false := by
        cases hu : u13 with
        | false => rfl
        | true => exact nomatch z.symm.trans ((c5 (c13 hu).1))
      have zd : u2 = true ∧ u3 = true := by
        simp [Region.binds] at hd
        simp [hd]
      have H_kS := hide kS
      have H_kR := hide kR
      have H_c2 := hide c2
      have H_c4 := hide c4
      have H_c5 := hide c5
      have H_c6 := hide c6
      have H_c7 := hide c7
      have H_c8 := hide c8
      have H_c9 := hide c9
      have H_c10 := hide c10
      have H_c11 := hide c11
      have H_c12 := hide c12
      have H_c13 := hide c13
      have H_c14 := hide c14
      have H_kF := hide kF
      clear kS kR c2 c4 c5 c6 c7 c8 c9 c10 c11 c12 c13 c14 kF
      obtain ⟨rfl, rfl⟩ := zd
      subst z15_
      subst z13_
      subst z
      clear h0 hd
      rw [if_pos (by rfl)]
      (unfold Oper.wpIn; refine ⟨fun _ _ => trivial, ?_⟩; go_simp)
      exact unhide hK _ _ ⟨u0, u1, true, true, true, u5, u6, u7, u8, u9, u10, u11, u12, false, u14, false, r, rfl, rfl, unhide H_kS, (fun h => nomatch h), unhide H_c2, (fun _ => ⟨rfl, rfl⟩), (fun h => rfl), unhide H_c6, unhide H_c7, unhide H_c8, unhide H_c9, unhide H_c10, unhide H_c11, unhide H_c12, (fun h => nomatch h), unhide H_c14, (fun h => nomatch h)⟩
    · intro h0 hd K hK
      have z : u5 = false := h0
      have z15_ : u15 = false := by
        cases hu : u15 with
        | false => rfl
        | true => exact nomatch z.symm.trans ((kF hu).2.2.2.2.2.1)
      have z13_ : u13 = false := by
        cases hu : u13 with
        | false => rfl
        | true => exact nomatch z.symm.trans ((c13 hu).1)
      have zd : u4 = true := by
        simp [Region.binds] at hd
        simp [hd]
      have H_kS := hide kS
      have H_kR := hide kR
      have H_c2 := hide c2
      have H_c4 := hide c4
      have H_c5 := hide c5
      have H_c6 := hide c6
      have H_c7 := hide c7
      have H_c8 := hide c8
      have H_c9 := hide c9
      have H_c10 := hide c10
      have H_c11 := hide c11
      have H_c12 := hide c12
      have H_c13 := hide c13
      have H_c14 := hide c14
      have H_kF := hide kF
      clear kS kR c2 c4 c5 c6 c7 c8 c9 c10 c11 c12 c13 c14 kF
      obtain ⟨rfl⟩ := zd
      subst z15_
      subst z13_
      subst z
      clear h0 hd
      rw [if_pos (by rfl)]
      (unfold Oper.wpIn; refine ⟨fun _ _ => trivial, ?_⟩; go_simp)
      exact unhide hK _ _ ⟨u0, u1, u2, u3, true, true, u6, u7, u8, u9, u10, u11, u12, false, u14, false, r, rfl, rfl, unhide H_kS, (fun h => nomatch h), unhide H_c2, unhide H_c4, (fun _ => rfl), (fun h => rfl), (fun h => rfl), (fun h => ⟨rfl, (unhide H_c8 h).2⟩), (fun h => rfl), (fun h => ⟨rfl, (unhide H_c10 h).2⟩), (fun h => rfl), (fun h => ⟨rfl, (unhide H_c12 h).2.1, (unhide H_c12 h).2.2.1, (unhide H_c12 h).2.2.2⟩), (fun h => nomatch h), (fun h => ⟨rfl, (unhide H_c14 h).2⟩), (fun h => nomatch h)⟩
    · intro h0 hd K hK
      have z : u6 = false := h0
      have z15_ : u15 = false := by
        cases hu : u15 with
        | false => rfl
        | true => exact nomatch z.symm.trans ((kF hu).2.2.2.2.2.2.1)
      have z13_ : u13 = false := by
        cases hu : u13 with
        | false => rfl
        | true => exact nomatch z.symm.trans ((c13 hu).2.1)
      have zd : u5 = true := by
        simp [Region.binds] at hd
        simp [hd]
      have H_kS := hide kS
      have H_kR := hide kR
      have H_c2 := hide c2
      have H_c4 := hide c4
      have H_c5 := hide c5
      have H_c6 := hide c6
      have H_c7 := hide c7
      have H_c8 := hide c8
      have H_c9 := hide c9
      have H_c10 := hide c10
      have H_c11 := hide c11
      have H_c12 := hide c12
      have H_c13 := hide c13
      have H_c14 := hide c14
      have H_kF := hide kF
      clear kS kR c2 c4 c5 c6 c7 c8 c9 c10 c11 c12 c13 c14 kF
      obtain ⟨rfl⟩ := zd
      subst z15_
      subst z13_
      subst z
      clear h0 hd
      rw [if_pos (by rfl)]
      have cc0 := keep1 (unhide H_kS rfl) ((unhide HY).cell (m := 0) rfl)
      (unfold Oper.wpIn; refine ⟨fun _ _ => trivial, ?_⟩; go_simp)
      exact unhide hK _ _ ⟨u0, u1, u2, u3, u4, true, true, u7, u8, u9, u10, u11, u12, false, u14, false, r, rfl, rfl, unhide H_kS, (fun h => nomatch h), unhide H_c2, unhide H_c4, unhide H_c5, (fun _ => rfl), (fun h => rfl), (fun h => ⟨rfl, (unhide H_c8 h).2⟩), (fun h => rfl), (fun h => ⟨rfl, (unhide H_c10 h).2⟩), (fun h => rfl), (fun h => ⟨rfl, (unhide H_c12 h).2.1, (unhide H_c12 h).2.2.1, (unhide H_c12 h).2.2.2⟩), (fun h => nomatch h), (fun h => ⟨rfl, (unhide H_c14 h).2⟩), (fun h => nomatch h)⟩
    · intro h0 hd K hK
      have z : u7 = false := h0
      have z15_ : u15 = false := by
        cases hu : u15 with
        | false => rfl
        | true => exact nomatch z.symm.trans ((kF hu).2.2.2.2.2.2.2.1)
      have z13_ : u13 = false := by
        cases hu : u13 with
        | false => rfl
        | true => exact nomatch z.symm.trans ((c8 (c12 (c13 hu).2.2).2.1).2)
      have zd : u5 = true := by
        simp [Region.binds] at hd
        simp [hd]
      have H_kS := hide kS
      have H_kR := hide kR
      have H_c2 := hide c2
      have H_c4 := hide c4
      have H_c5 := hide c5
      have H_c6 := hide c6
      have H_c7 := hide c7
      have H_c8 := hide c8
      have H_c9 := hide c9
      have H_c10 := hide c10
      have H_c11 := hide c11
      have H_c12 := hide c12
      have H_c13 := hide c13
      have H_c14 := hide c14
      have H_kF := hide kF
      clear kS kR c2 c4 c5 c6 c7 c8 c9 c10 c11 c12 c13 c14 kF
      obtain ⟨rfl⟩ := zd
      subst z15_
      subst z13_
      subst z
      clear h0 hd
      rw [if_pos (by rfl)]
      (unfold Oper.wpIn; refine ⟨fun _ _ => trivial, ?_⟩; go_simp)
      exact unhide hK _ _ ⟨u0, u1, u2, u3, u4, true, u6, true, u8, u9, u10, u11, u12, false, u14, false, r, rfl, rfl, unhide H_kS, (fun h => nomatch h), unhide H_c2, unhide H_c4, unhide H_c5, (fun h => rfl), (fun _ => rfl), (fun h => ⟨rfl, rfl⟩), (fun h => rfl), (fun h => ⟨rfl, (unhide H_c10 h).2⟩), (fun h => rfl), (fun h => ⟨rfl, (unhide H_c12 h).2.1, (unhide H_c12 h).2.2.1, (unhide H_c12 h).2.2.2⟩), (fun h => nomatch h), (fun h => ⟨rfl, (unhide H_c14 h).2⟩), (fun h => nomatch h)⟩
    · intro h0 hd K hK
      have z : u8 = false := h0
      have z15_ : u15 = false := by
        cases hu : u15 with
        | false => rfl
        | true => exact nomatch z.symm.trans ((kF hu).2.2.2.2.2.2.2.2.1)
      have z13_ : u13 = false := by
        cases hu : u13 with
        | false => rfl
        | true => exact nomatch z.symm.trans ((c12 (c13 hu).2.2).2.1)
      have zd : u5 = true ∧ u7 = true := by
        simp [Region.binds] at hd
        simp [hd]
      have H_kS := hide kS
      have H_kR := hide kR
      have H_c2 := hide c2
      have H_c4 := hide c4
      have H_c5 := hide c5
      have H_c6 := hide c6
      have H_c7 := hide c7
      have H_c8 := hide c8
      have H_c9 := hide c9
      have H_c10 := hide c10
      have H_c11 := hide c11
      have H_c12 := hide c12
      have H_c13 := hide c13
      have H_c14 := hide c14
      have H_kF := hide kF
      clear kS kR c2 c4 c5 c6 c7 c8 c9 c10 c11 c12 c13 c14 kF
      obtain ⟨rfl, rfl⟩ := zd
      subst z15_
      subst z13_
      subst z
      clear h0 hd
      rw [if_pos (by rfl)]
      have cc0 := keep1 (unhide H_kS rfl) ((unhide H5).cell (m := 0) rfl)
      have cc1 := keep1 (unhide H_kS rfl) ((unhide H5).cell (m := 1) rfl)
      (unfold Oper.wpIn; refine ⟨fun _ _ => trivial, ?_⟩; go_simp)
      exact unhide hK _ _ ⟨u0, u1, u2, u3, u4, true, u6, true, true, u9, u10, u11, u12, false, u14, false, r, rfl, rfl, unhide H_kS, (fun h => nomatch h), unhide H_c2, unhide H_c4, unhide H_c5, (fun h => rfl), (fun h => rfl), (fun _ => ⟨rfl, rfl⟩), (fun h => rfl), (fun h => ⟨rfl, (unhide H_c10 h).2⟩), (fun h => rfl), (fun h => ⟨rfl, rfl, (unhide H_c12 h).2.2.1, (unhide H_c12 h).2.2.2⟩), (fun h => nomatch h), (fun h => ⟨rfl, (unhide H_c14 h).2⟩), (fun h => nomatch h)⟩
    · intro h0 hd K hK
      have z : u9 = false := h0
      have z15_ : u15 = false := by
        cases hu : u15 with
        | false => rfl
        | true => exact nomatch z.symm.trans ((kF hu).2.2.2.2.2.2.2.2.2.1)
      have z13_ : u13 = false := by
        cases hu : u13 with
        | false => rfl
        | true => exact nomatch z.symm.trans ((c10 (c12 (c13 hu).2.2).2.2.1).2)
      have zd : u5 = true := by
        simp [Region.binds] at hd
        simp [hd]
      have H_kS := hide kS
      have H_kR := hide kR
      have H_c2 := hide c2
      have H_c4 := hide c4
      have H_c5 := hide c5
      have H_c6 := hide c6
      have H_c7 := hide c7
      have H_c8 := hide c8
      have H_c9 := hide c9
      have H_c10 := hide c10
      have H_c11 := hide c11
      have H_c12 := hide c12
      have H_c13 := hide c13
      have H_c14 := hide c14
      have H_kF := hide kF
      clear kS kR c2 c4 c5 c6 c7 c8 c9 c10 c11 c12 c13 c14 kF
      obtain ⟨rfl⟩ := zd
      subst z15_
      subst z13_
      subst z
      clear h0 hd
      rw [if_pos (by rfl)]
      (unfold Oper.wpIn; refine ⟨fun _ _ => trivial, ?_⟩; go_simp)
      exact unhide hK _ _ ⟨u0, u1, u2, u3, u4, true, u6, u7, u8, true, u10, u11, u12, false, u14, false, r, rfl, rfl, unhide H_kS, (fun h => nomatch h), unhide H_c2, unhide H_c4, unhide H_c5, (fun h => rfl), (fun h => rfl), (fun h => ⟨rfl, (unhide H_c8 h).2⟩), (fun _ => rfl), (fun h => ⟨rfl, rfl⟩), (fun h => rfl), (fun h => ⟨rfl, (unhide H_c12 h).2.1, (unhide H_c12 h).2.2.1, (unhide H_c12 h).2.2.2⟩), (fun h => nomatch h), (fun h => ⟨rfl, (unhide H_c14 h).2⟩), (fun h => nomatch h)⟩
    · intro h0 hd K hK
      have z : u10 = false := h0
      have z15_ : u15 = false := by
        cases hu : u15 with
        | false => rfl
        | true => exact nomatch z.symm.trans ((kF hu).2.2.2.2.2.2.2.2.2.2.1)
      have z13_ : u13 = false := by
        cases hu : u13 with
        | false => rfl
        | true => exact nomatch z.symm.trans ((c12 (c13 hu).2.2).2.2.1)
      have zd : u5 = true ∧ u9 = true := by
        simp [Region.binds] at hd
        simp [hd]
      have H_kS := hide kS
      have H_kR := hide kR
      have H_c2 := hide c2
      have H_c4 := hide c4
      have H_c5 := hide c5
      have H_c6 := hide c6
      have H_c7 := hide c7
      have H_c8 := hide c8
      have H_c9 := hide c9
      have H_c10 := hide c10
      have H_c11 := hide c11
      have H_c12 := hide c12
      have H_c13 := hide c13
      have H_c14 := hide c14
      have H_kF := hide kF
      clear kS kR c2 c4 c5 c6 c7 c8 c9 c10 c11 c12 c13 c14 kF
      obtain ⟨rfl, rfl⟩ := zd
      subst z15_
      subst z13_
      subst z
      clear h0 hd
      rw [if_pos (by rfl)]
      have cc0 := keep1 (unhide H_kS rfl) ((unhide H5).cell (m := 0) rfl)
      have cc1 := keep1 (unhide H_kS rfl) ((unhide H5).cell (m := 1) rfl)
      (unfold Oper.wpIn; refine ⟨fun _ _ => trivial, ?_⟩; go_simp)
      exact unhide hK _ _ ⟨u0, u1, u2, u3, u4, true, u6, u7, u8, true, true, u11, u12, false, u14, false, r, rfl, rfl, unhide H_kS, (fun h => nomatch h), unhide H_c2, unhide H_c4, unhide H_c5, (fun h => rfl), (fun h => rfl), (fun h => ⟨rfl, (unhide H_c8 h).2⟩), (fun h => rfl), (fun _ => ⟨rfl, rfl⟩), (fun h => rfl), (fun h => ⟨rfl, (unhide H_c12 h).2.1, rfl, (unhide H_c12 h).2.2.2⟩), (fun h => nomatch h), (fun h => ⟨rfl, (unhide H_c14 h).2⟩), (fun h => nomatch h)⟩
    · intro h0 hd K hK
      have z : u11 = false := h0
      have z15_ : u15 = false := by
        cases hu : u15 with
        | false => rfl
        | true => exact nomatch z.symm.trans ((kF hu).2.2.2.2.2.2.2.2.2.2.2.1)
      have z13_ : u13 = false := by
        cases hu : u13 with
        | false => rfl
        | true => exact nomatch z.symm.trans ((c12 (c13 hu).2.2).2.2.2)
      have zd : u5 = true := by
        simp [Region.binds] at hd
        simp [hd]
      have H_kS := hide kS
      have H_kR := hide kR
      have H_c2 := hide c2
      have H_c4 := hide c4
      have H_c5 := hide c5
      have H_c6 := hide c6
      have H_c7 := hide c7
      have H_c8 := hide c8
      have H_c9 := hide c9
      have H_c10 := hide c10
      have H_c11 := hide c11
      have H_c12 := hide c12
      have H_c13 := hide c13
      have H_c14 := hide c14
      have H_kF := hide kF
      clear kS kR c2 c4 c5 c6 c7 c8 c9 c10 c11 c12 c13 c14 kF
      obtain ⟨rfl⟩ := zd
      subst z15_
      subst z13_
      subst z
      clear h0 hd
      rw [if_pos (by rfl)]
      have cc0 := keep1 (unhide H_kS rfl) ((unhide H4).cell (m := 0) rfl)
      (unfold Oper.wpIn; refine ⟨fun _ _ => trivial, ?_⟩; go_simp)
      exact unhide hK _ _ ⟨u0, u1, u2, u3, u4, true, u6, u7, u8, u9, u10, true, u12, false, u14, false, r, rfl, rfl, unhide H_kS, (fun h => nomatch h), unhide H_c2, unhide H_c4, unhide H_c5, (fun h => rfl), (fun h => rfl), (fun h => ⟨rfl, (unhide H_c8 h).2⟩), (fun h => rfl), (fun h => ⟨rfl, (unhide H_c10 h).2⟩), (fun _ => rfl), (fun h => ⟨rfl, (unhide H_c12 h).2.1, (unhide H_c12 h).2.2.1, rfl⟩), (fun h => nomatch h), (fun h => ⟨rfl, (unhide H_c14 h).2⟩), (fun h => nomatch h)⟩
    · intro h0 hd K hK
      have z : u12 = false := h0
      have z15_ : u15 = false := by
        cases hu : u15 with
        | false => rfl
        | true => exact nomatch z.symm.trans ((kF hu).2.2.2.2.2.2.2.2.2.2.2.2.1)
      have z13_ : u13 = false := by
        cases hu : u13 with
        | false => rfl
        | true => exact nomatch z.symm.trans ((c13 hu).2.2)
      have zd : u5 = true ∧ u8 = true ∧ u10 = true ∧ u11 = true := by
        simp [Region.binds] at hd
        simp [hd]
      have H_kS := hide kS
      have H_kR := hide kR
      have H_c2 := hide c2
      have H_c4 := hide c4
      have H_c5 := hide c5
      have H_c6 := hide c6
      have H_c7 := hide c7
      have H_c8 := hide c8
      have H_c9 := hide c9
      have H_c10 := hide c10
      have H_c11 := hide c11
      have H_c12 := hide c12
      have H_c13 := hide c13
      have H_c14 := hide c14
      have H_kF := hide kF
      clear kS kR c2 c4 c5 c6 c7 c8 c9 c10 c11 c12 c13 c14 kF
      obtain ⟨rfl, rfl, rfl, rfl⟩ := zd
      subst z15_
      subst z13_
      subst z
      clear h0 hd
      rw [if_pos (by rfl)]
      (unfold Oper.wpIn; refine ⟨fun _ _ => trivial, ?_⟩; go_simp)
      exact unhide hK _ _ ⟨u0, u1, u2, u3, u4, true, u6, u7, true, u9, true, true, true, false, u14, false, r, rfl, rfl, unhide H_kS, (fun h => nomatch h), unhide H_c2, unhide H_c4, unhide H_c5, (fun h => rfl), (fun h => rfl), (fun h => ⟨rfl, (unhide H_c8 h).2⟩), (fun h => rfl), (fun h => ⟨rfl, (unhide H_c10 h).2⟩), (fun h => rfl), (fun _ => ⟨rfl, rfl, rfl, rfl⟩), (fun h => nomatch h), (fun h => ⟨rfl, (unhide H_c14 h).2⟩), (fun h => nomatch h)⟩
    · intro h0 hd K hK
      have z : u13 = false := h0
      have z15_ : u15 = false := by
        cases hu : u15 with
        | false => rfl
        | true => exact nomatch z.symm.trans ((kF hu).2.2.2.2.2.2.2.2.2.2.2.2.2.1)
      have z14_ : u14 = false := by
        cases hu : u14 with
        | false => rfl
        | true => exact nomatch z.symm.trans ((c14 hu).2)
      have zd : u5 = true ∧ u6 = true ∧ u12 = true := by
        simp [Region.binds] at hd
        simp [hd]
      have H_kS := hide kS
      have H_kR := hide kR
      have H_c2 := hide c2
      have H_c4 := hide c4
      have H_c5 := hide c5
      have H_c6 := hide c6
      have H_c7 := hide c7
      have H_c8 := hide c8
      have H_c9 := hide c9
      have H_c10 := hide c10
      have H_c11 := hide c11
      have H_c12 := hide c12
      have H_c13 := hide c13
      have H_c14 := hide c14
      have H_kF := hide kF
      clear kS kR c2 c4 c5 c6 c7 c8 c9 c10 c11 c12 c13 c14 kF
      obtain ⟨rfl, rfl, rfl⟩ := zd
      subst z15_
      subst z14_
      subst z
      clear h0 hd
      rw [if_pos (by rfl)]
      obtain ⟨fn, tmps, assign, body, hyy, hR⟩ := unhide HD _ (unhide H_kS rfl)
      (unfold Oper.wpIn; refine ⟨fun _ _ => trivial, ?_⟩; go_simp)
      refine ⟨by first | rfl | trivial | (intro h; cases h), hR.mono ?_⟩
      rintro e w8 ⟨r', rfl, hp8⟩
      exact unhide hK _ _ ⟨u0, u1, u2, u3, u4, true, true, u7, u8, u9, u10, u11, true, true, false, false, r', rfl, rfl, (fun h => nomatch h), (fun _ => hp8), unhide H_c2, unhide H_c4, unhide H_c5, (fun h => rfl), (fun h => rfl), (fun h => ⟨rfl, (unhide H_c8 h).2⟩), (fun h => rfl), (fun h => ⟨rfl, (unhide H_c10 h).2⟩), (fun h => rfl), (fun h => ⟨rfl, (unhide H_c12 h).2.1, (unhide H_c12 h).2.2.1, (unhide H_c12 h).2.2.2⟩), (fun _ => ⟨rfl, rfl, rfl⟩), (fun h => nomatch h), (fun h => nomatch h)⟩
    · intro h0 hd K hK
      have z : u14 = false := h0
      have z15_ : u15 = false := by
        cases hu : u15 with
        | false => rfl
        | true => exact nomatch z.symm.trans ((kF hu).2.2.2.2.2.2.2.2.2.2.2.2.2.2)
      have zd : u5 = true ∧ u13 = true := by
        simp [Region.binds] at hd
        simp [hd]
      have H_kS := hide kS
      have H_kR := hide kR
      have H_c2 := hide c2
      have H_c4 := hide c4
      have H_c5 := hide c5
      have H_c6 := hide c6
      have H_c7 := hide c7
      have H_c8 := hide c8
      have H_c9 := hide c9
      have H_c10 := hide c10
      have H_c11 := hide c11
      have H_c12 := hide c12
      have H_c13 := hide c13
      have H_c14 := hide c14
      have H_kF := hide kF
      clear kS kR c2 c4 c5 c6 c7 c8 c9 c10 c11 c12 c13 c14 kF
      obtain ⟨rfl, rfl⟩ := zd
      subst z15_
      subst z
      clear h0 hd
      rw [if_pos (by rfl)]
      (unfold Oper.wpIn; refine ⟨fun _ _ => trivial, ?_⟩; go_simp)
      exact unhide hK _ _ ⟨u0, u1, u2, u3, u4, true, u6, u7, u8, u9, u10, u11, u12, true, true, false, r, rfl, rfl, unhide H_kS, unhide H_kR, unhide H_c2, unhide H_c4, unhide H_c5, (fun h => rfl), (fun h => rfl), (fun h => ⟨rfl, (unhide H_c8 h).2⟩), (fun h => rfl), (fun h => ⟨rfl, (unhide H_c10 h).2⟩), (fun h => rfl), (fun h => ⟨rfl, (unhide H_c12 h).2.1, (unhide H_c12 h).2.2.1, (unhide H_c12 h).2.2.2⟩), (fun h => ⟨rfl, (unhide H_c13 h).2.1, (unhide H_c13 h).2.2⟩), (fun _ => ⟨rfl, rfl⟩), (fun h => nomatch h)⟩
    · intro h0 hd K hK
      have z : u15 = false := h0
      have zd : u5 = true ∧ u14 = true ∧ u0 = true ∧ u1 = true ∧ u2 = true ∧ u3 = true ∧ u4 = true ∧ u6 = true ∧ u7 = true ∧ u8 = true ∧ u9 = true ∧ u10 = true ∧ u11 = true ∧ u12 = true ∧ u13 = true := by
        simp [Region.binds] at hd
        simp_all
      have H_kS := hide kS
      have H_kR := hide kR
      have H_c2 := hide c2
      have H_c4 := hide c4
      have H_c5 := hide c5
      have H_c6 := hide c6
      have H_c7 := hide c7
      have H_c8 := hide c8
      have H_c9 := hide c9
      have H_c10 := hide c10
      have H_c11 := hide c11
      have H_c12 := hide c12
      have H_c13 := hide c13
      have H_c14 := hide c14
      have H_kF := hide kF
      clear kS kR c2 c4 c5 c6 c7 c8 c9 c10 c11 c12 c13 c14 kF
      obtain ⟨rfl, rfl, rfl, rfl, rfl, rfl, rfl, rfl, rfl, rfl, rfl, rfl, rfl, rfl, rfl⟩ := zd
      subst z
      clear h0 hd
      rw [if_pos (by rfl)]
      (unfold Oper.wpIn; refine ⟨fun _ _ => trivial, ?_⟩; go_simp)
      exact unhide hK _ _ ⟨true, true, true, true, true, true, true, true, true, true, true, true, true, true, true, true, r, rfl, rfl, unhide H_kS, unhide H_kR, (fun _ => ⟨rfl, rfl⟩), (fun _ => ⟨rfl, rfl⟩), (fun _ => rfl), (fun _ => rfl), (fun _ => rfl), (fun _ => ⟨rfl, rfl⟩), (fun _ => rfl), (fun _ => ⟨rfl, rfl⟩), (fun _ => rfl), (fun _ => ⟨rfl, rfl, rfl, rfl⟩), (fun _ => ⟨rfl, rfl, rfl⟩), (fun _ => ⟨rfl, rfl⟩), (fun _ => ⟨rfl, rfl, rfl, rfl, rfl, rfl, rfl, rfl, rfl, rfl, rfl, rfl, rfl, rfl, rfl⟩)⟩
  case hend =>
    rintro Lb A W_ ⟨u0, u1, u2, u3, u4, u5, u6, u7, u8, u9, u10, u11, u12, u13, u14, u15, r, rfl, rfl, kS, kR, c2, c4, c5, c6, c7, c8, c9, c10, c11, c12, c13, c14, kF⟩ hL
    have hl : u0 = true ∧ u1 = true ∧ u2 = true ∧ u3 = true ∧ u4 = true ∧ u5 = true ∧ u6 = true ∧ u7 = true ∧ u8 = true ∧ u9 = true ∧ u10 = true ∧ u11 = true ∧ u12 = true ∧ u13 = true ∧ u14 = true ∧ u15 = true := by
      have h2 := congrArg Array.toList hL
      simpa [List.replicate] using h2
    obtain ⟨rfl, rfl, rfl, rfl, rfl, rfl, rfl, rfl, rfl, rfl, rfl, rfl, rfl, rfl, rfl, rfl⟩ := hl
    exact unhide HQ r _ (kR rfl)
set_option maxHeartbeats 4000000 in
set_option maxRecDepth 100000 in
theorem st5b {s0 s1 s6 s7 s8 s9 s10 s11 s12 s13 s14 s15 s16 s17 s18 s19 s20 s21 s22 s23 s24 s25 s26 s27 s28 s29 s30 s31 s32 s33 s34 s35 s36 s37 s38 s39 s40 s41 s42 s43 s44 s45 s46 s47 s48 s49 s50 s51 s52 s53 s54 : Value} {l l' by_ Bf b4 b5 W H n c g po : Nat} {x y z t : Int} {Pst : Bool → World → Prop} {V : World} {K_ : Act → World → Prop}
    (HF : Hid (vb V Bf 25 [.int .i64 (W : Int), .int .i64 (H : Int), .slice (some ⟨g, po, none⟩) n c])) (H4 : Hid (vb V b4 3 [.int .i64 z])) (H5 : Hid (vb V b5 46 [.int .i64 x, .int .i64 y]))
    (HT : Hid (∀ X, Below V.heap.size V X → Calls Try.prog 52 #[.agg #[.int .i64 (W : Int), .int .i64 (H : Int), .slice (some ⟨g, po, none⟩) n c], .agg #[.int .i64 (x), .int .i64 (y)]] X fun e w' => e = .returned (.int .i64 t) ∧ Below X.heap.size X w'))
    (hle : ¬ t ≤ z)
    (hQ : ∀ (W' : World), Below V.heap.size V W' → K_ { tmps := #[s0, s1, .pointer (some ⟨Bf, 0, none⟩), .pointer (some ⟨by_, 0, none⟩), .pointer (some ⟨b4, 0, none⟩), .pointer (some ⟨b5, 0, none⟩), s6, s7, s8, s9, s10, s11, s12, s13, s14, .agg #[.int .i64 (W : Int), .int .i64 (H : Int), .slice (some ⟨g, po, none⟩) n c], .agg #[.int .i64 (x), .int .i64 (y)], .int .i64 (t), .int .i64 (z), .bool false, .bool false, undef, undef, undef, undef, undef, undef, undef, undef, undef, .bool false, s31, s32, s33, s34, s35, s36, s37, s38, s39, s40, s41, s42, s43, s44, s45, s46, s47, s48, s49, s50, s51, s52, s53, s54], defers := [] } W') :
    Go.Code.wpIn (Fence.wide.inRound l') 0 Try.prog (reg74 5) (Only K_) { tmps := #[s0, s1, .pointer (some ⟨Bf, 0, none⟩), .pointer (some ⟨by_, 0, none⟩), .pointer (some ⟨b4, 0, none⟩), .pointer (some ⟨b5, 0, none⟩), s6, s7, s8, s9, s10, s11, s12, s13, s14, s15, s16, s17, s18, s19, s20, s21, s22, s23, s24, s25, s26, s27, s28, s29, s30, s31, s32, s33, s34, s35, s36, s37, s38, s39, s40, s41, s42, s43, s44, s45, s46, s47, s48, s49, s50, s51, s52, s53, s54], defers := [] } V := by
  have HQ := hide hQ
  have tt := decide_eq_false hle
  clear hQ hle
  conv => arg 4; whnf
  refine wpIn_region_inv (fun Lb A W_ => ∃ (u0 u1 u2 u3 u4 u5 u6 u7 u8 u9 u10 u11 u12 u13 u14 u15 : Bool) (dd : Nat), Lb = #[u0, u1, u2, u3, u4, u5, u6, u7, u8, u9, u10, u11, u12, u13, u14, u15] ∧ A = ({ tmps := #[s0, s1, .pointer (some ⟨Bf, 0, none⟩), .pointer (some ⟨by_, 0, none⟩), .pointer (some ⟨b4, 0, none⟩), .pointer (some ⟨b5, 0, none⟩), s6, s7, s8, s9, s10, s11, s12, s13, s14, (bif u0 then .agg #[.int .i64 (W : Int), .int .i64 (H : Int), .slice (some ⟨g, po, none⟩) n c] else s15), (bif u1 then .agg #[.int .i64 (x), .int .i64 (y)] else s16), (bif u2 then .int .i64 (t) else s17), (bif u3 then .int .i64 (z) else s18), (bif u4 then .bool false else s19), (bif u5 then .bool false else s20), (bif u6 then undef else s21), (bif u7 then undef else s22), (bif u8 then undef else s23), (bif u9 then undef else s24), (bif u10 then undef else s25), (bif u11 then undef else s26), (bif u12 then undef else s27), (bif u13 then undef else s28), (bif u14 then undef else s29), (bif u15 then .bool false else s30), s31, s32, s33, s34, s35, s36, s37, s38, s39, s40, s41, s42, s43, s44, s45, s46, s47, s48, s49, s50, s51, s52, s53, s54], defers := [] } : Act) ∧ Below V.heap.size V W_ ∧ (u2 = true → u0 = true ∧ u1 = true) ∧ (u4 = true → u2 = true ∧ u3 = true) ∧ (u5 = true → u4 = true) ∧ (u6 = true → u5 = true) ∧ (u7 = true → u5 = true) ∧ (u8 = true → u5 = true ∧ u7 = true) ∧ (u9 = true → u5 = true) ∧ (u10 = true → u5 = true ∧ u9 = true) ∧ (u11 = true → u5 = true) ∧ (u12 = true → u5 = true ∧ u8 = true ∧ u10 = true ∧ u11 = true) ∧ (u13 = true → u5 = true ∧ u6 = true ∧ u12 = true) ∧ (u14 = true → u5 = true ∧ u13 = true) ∧ (u15 = true → u0 = true ∧ u1 = true ∧ u2 = true ∧ u3 = true ∧ u4 = true ∧ u5 = true ∧ u6 = true ∧ u7 = true ∧ u8 = true ∧ u9 = true ∧ u10 = true ∧ u11 = true ∧ u12 = true ∧ u13 = true ∧ u14 = true)) (by kernel_rfl) (by kernel_rfl) ?h0 ?hstep ?hend
  case h0 =>
    exact ⟨false, false, false, false, false, false, false, false, false, false, false, false, false, false, false, false, 0, rfl, rfl, Below.drew (Below.refl _ _), (fun h => nomatch h), (fun h => nomatch h), (fun h => nomatch h), (fun h => nomatch h), (fun h => nomatch h), (fun h => nomatch h), (fun h => nomatch h), (fun h => nomatch h), (fun h => nomatch h), (fun h => nomatch h), (fun h => nomatch h), (fun h => nomatch h), (fun h => nomatch h)⟩
  case hstep =>
    rintro Lb A W_ ⟨u0, u1, u2, u3, u4, u5, u6, u7, u8, u9, u10, u11, u12, u13, u14, u15, dd, rfl, rfl, kS, c2, c4, c5, c6, c7, c8, c9, c10, c11, c12, c13, c14, kF⟩
    refine ⟨?_, ?_, ?_, ?_, ?_, ?_, ?_, ?_, ?_, ?_, ?_, ?_, ?_, ?_, ?_, ?_, trivial⟩
    · intro h0 hd K hK
      have z : u0 = false := h0
      have z15_ : u15 = false := by
        cases hu : u15 with
        | false => rfl
        | true => exact nomatch z.symm.trans ((kF hu).1)
      have H_kS := hide kS
      have H_c2 := hide c2
      have H_c4 := hide c4
      have H_c5 := hide c5
      have H_c6 := hide c6
      have H_c7 := hide c7
      have H_c8 := hide c8
      have H_c9 := hide c9
      have H_c10 := hide c10
      have H_c11 := hide c11
      have H_c12 := hide c12
      have H_c13 := hide c13
      have H_c14 := hide c14
      have H_kF := hide kF
      clear kS c2 c4 c5 c6 c7 c8 c9 c10 c11 c12 c13 c14 kF
      subst z15_
      subst z
      clear h0 hd
      rw [if_pos (by rfl)]
      have cc0 := keep1 (unhide H_kS) ((unhide HF).cell (m := 0) rfl)
      have cc1 := keep1 (unhide H_kS) ((unhide HF).cell (m := 1) rfl)
      have cc2 := keep1 (unhide H_kS) ((unhide HF).cell (m := 2) rfl)
      (unfold Oper.wpIn; refine ⟨fun _ _ => trivial, ?_⟩; go_simp)
      exact unhide hK _ _ ⟨true, u1, u2, u3, u4, u5, u6, u7, u8, u9, u10, u11, u12, u13, u14, false, dd, rfl, rfl, unhide H_kS, (fun h => ⟨rfl, (unhide H_c2 h).2⟩), unhide H_c4, unhide H_c5, unhide H_c6, unhide H_c7, unhide H_c8, unhide H_c9, unhide H_c10, unhide H_c11, unhide H_c12, unhide H_c13, unhide H_c14, (fun h => nomatch h)⟩
    · intro h0 hd K hK
      have z : u1 = false := h0
      have z15_ : u15 = false := by
        cases hu : u15 with
        | false => rfl
        | true => exact nomatch z.symm.trans ((kF hu).2.1)
      have H_kS := hide kS
      have H_c2 := hide c2
      have H_c4 := hide c4
      have H_c5 := hide c5
      have H_c6 := hide c6
      have H_c7 := hide c7
      have H_c8 := hide c8
      have H_c9 := hide c9
      have H_c10 := hide c10
      have H_c11 := hide c11
      have H_c12 := hide c12
      have H_c13 := hide c13
      have H_c14 := hide c14
      have H_kF := hide kF
      clear kS c2 c4 c5 c6 c7 c8 c9 c10 c11 c12 c13 c14 kF
      subst z15_
      subst z
      clear h0 hd
      rw [if_pos (by rfl)]
      have cc0 := keep1 (unhide H_kS) ((unhide H5).cell (m := 0) rfl)
      have cc1 := keep1 (unhide H_kS) ((unhide H5).cell (m := 1) rfl)
      (unfold Oper.wpIn; refine ⟨fun _ _ => trivial, ?_⟩; go_simp)
      exact unhide hK _ _ ⟨u0, true, u2, u3, u4, u5, u6, u7, u8, u9, u10, u11, u12, u13, u14, false, dd, rfl, rfl, unhide H_kS, (fun h => ⟨(unhide H_c2 h).1, rfl⟩), unhide H_c4, unhide H_c5, unhide H_c6, unhide H_c7, unhide H_c8, unhide H_c9, unhide H_c10, unhide H_c11, unhide H_c12, unhide H_c13, unhide H_c14, (fun h => nomatch h)⟩
    · intro h0 hd K hK
      have z : u2 = false := h0
      have z15_ : u15 = false := by
        cases hu : u15 with
        | false => rfl
        | true => exact nomatch z.symm.trans ((kF hu).2.2.1)
      have zd : u0 = true ∧ u1 = true := by
        simp [Region.binds] at hd
        simp [hd]
      have H_kS := hide kS
      have H_c2 := hide c2
      have H_c4 := hide c4
      have H_c5 := hide c5
      have H_c6 := hide c6
      have H_c7 := hide c7
      have H_c8 := hide c8
      have H_c9 := hide c9
      have H_c10 := hide c10
      have H_c11 := hide c11
      have H_c12 := hide c12
      have H_c13 := hide c13
      have H_c14 := hide c14
      have H_kF := hide kF
      clear kS c2 c4 c5 c6 c7 c8 c9 c10 c11 c12 c13 c14 kF
      obtain ⟨rfl, rfl⟩ := zd
      subst z15_
      subst z
      clear h0 hd
      rw [if_pos (by rfl)]
      (unfold Oper.wpIn; refine ⟨fun _ _ => trivial, ?_⟩; go_simp)
      refine ⟨by first | rfl | trivial | (intro h; cases h), (CallsIn.inRound l' (callsIn_wide.2 (unhide HT _ (unhide H_kS)))).mono ?_⟩
      rintro e w8 ⟨rfl, hb8⟩
      exact unhide hK _ _ ⟨true, true, true, u3, u4, u5, u6, u7, u8, u9, u10, u11, u12, u13, u14, false, dd, rfl, rfl, (bc (unhide H_kS) hb8), (fun _ => ⟨rfl, rfl⟩), (fun h => ⟨rfl, (unhide H_c4 h).2⟩), unhide H_c5, unhide H_c6, unhide H_c7, unhide H_c8, unhide H_c9, unhide H_c10, unhide H_c11, unhide H_c12, unhide H_c13, unhide H_c14, (fun h => nomatch h)⟩
    · intro h0 hd K hK
      have z : u3 = false := h0
      have z15_ : u15 = false := by
        cases hu : u15 with
        | false => rfl
        | true => exact nomatch z.symm.trans ((kF hu).2.2.2.1)
      have H_kS := hide kS
      have H_c2 := hide c2
      have H_c4 := hide c4
      have H_c5 := hide c5
      have H_c6 := hide c6
      have H_c7 := hide c7
      have H_c8 := hide c8
      have H_c9 := hide c9
      have H_c10 := hide c10
      have H_c11 := hide c11
      have H_c12 := hide c12
      have H_c13 := hide c13
      have H_c14 := hide c14
      have H_kF := hide kF
      clear kS c2 c4 c5 c6 c7 c8 c9 c10 c11 c12 c13 c14 kF
      subst z15_
      subst z
      clear h0 hd
      rw [if_pos (by rfl)]
      have cc0 := keep1 (unhide H_kS) ((unhide H4).cell (m := 0) rfl)
      (unfold Oper.wpIn; refine ⟨fun _ _ => trivial, ?_⟩; go_simp)
      exact unhide hK _ _ ⟨u0, u1, u2, true, u4, u5, u6, u7, u8, u9, u10, u11, u12, u13, u14, false, dd, rfl, rfl, unhide H_kS, unhide H_c2, (fun h => ⟨(unhide H_c4 h).1, rfl⟩), unhide H_c5, unhide H_c6, unhide H_c7, unhide H_c8, unhide H_c9, unhide H_c10, unhide H_c11, unhide H_c12, unhide H_c13, unhide H_c14, (fun h => nomatch h)⟩
    · intro h0 hd K hK
      have z : u4 = false := h0
      have z15_ : u15 = false := by
        cases hu : u15 with
        | false => rfl
        | true => exact nomatch z.symm.trans ((kF hu).2.2.2.2.1)
      have zd : u2 = true ∧ u3 = true := by
        simp [Region.binds] at hd
        simp [hd]
      have H_kS := hide kS
      have H_c2 := hide c2
      have H_c4 := hide c4
      have H_c5 := hide c5
      have H_c6 := hide c6
      have H_c7 := hide c7
      have H_c8 := hide c8
      have H_c9 := hide c9
      have H_c10 := hide c10
      have H_c11 := hide c11
      have H_c12 := hide c12
      have H_c13 := hide c13
      have H_c14 := hide c14
      have H_kF := hide kF
      clear kS c2 c4 c5 c6 c7 c8 c9 c10 c11 c12 c13 c14 kF
      obtain ⟨rfl, rfl⟩ := zd
      subst z15_
      subst z
      clear h0 hd
      rw [if_pos (by rfl)]
      (unfold Oper.wpIn; refine ⟨fun _ _ => trivial, ?_⟩; go_simp)
      exact unhide hK _ _ ⟨u0, u1, true, true, true, u5, u6, u7, u8, u9, u10, u11, u12, u13, u14, false, dd, rfl, rfl, unhide H_kS, unhide H_c2, (fun _ => ⟨rfl, rfl⟩), (fun h => rfl), unhide H_c6, unhide H_c7, unhide H_c8, unhide H_c9, unhide H_c10, unhide H_c11, unhide H_c12, unhide H_c13, unhide H_c14, (fun h => nomatch h)⟩
    · intro h0 hd K hK
      have z : u5 = false := h0
      have z15_ : u15 = false := by
        cases hu : u15 with
        | false => rfl
        | true => exact nomatch z.symm.trans ((kF hu).2.2.2.2.2.1)
      have zd : u4 = true := by
        simp [Region.binds] at hd
        simp [hd]
      have H_kS := hide kS
      have H_c2 := hide c2
      have H_c4 := hide c4
      have H_c5 := hide c5
      have H_c6 := hide c6
      have H_c7 := hide c7
      have H_c8 := hide c8
      have H_c9 := hide c9
      have H_c10 := hide c10
      have H_c11 := hide c11
      have H_c12 := hide c12
      have H_c13 := hide c13
      have H_c14 := hide c14
      have H_kF := hide kF
      clear kS c2 c4 c5 c6 c7 c8 c9 c10 c11 c12 c13 c14 kF
      obtain ⟨rfl⟩ := zd
      subst z15_
      subst z
      clear h0 hd
      rw [if_pos (by rfl)]
      (unfold Oper.wpIn; refine ⟨fun _ _ => trivial, ?_⟩; go_simp)
      exact unhide hK _ _ ⟨u0, u1, u2, u3, true, true, u6, u7, u8, u9, u10, u11, u12, u13, u14, false, dd, rfl, rfl, unhide H_kS, unhide H_c2, unhide H_c4, (fun _ => rfl), (fun h => rfl), (fun h => rfl), (fun h => ⟨rfl, (unhide H_c8 h).2⟩), (fun h => rfl), (fun h => ⟨rfl, (unhide H_c10 h).2⟩), (fun h => rfl), (fun h => ⟨rfl, (unhide H_c12 h).2.1, (unhide H_c12 h).2.2.1, (unhide H_c12 h).2.2.2⟩), (fun h => ⟨rfl, (unhide H_c13 h).2.1, (unhide H_c13 h).2.2⟩), (fun h => ⟨rfl, (unhide H_c14 h).2⟩), (fun h => nomatch h)⟩
    · intro h0 hd K hK
      have z : u6 = false := h0
      have z15_ : u15 = false := by
        cases hu : u15 with
        | false => rfl
        | true => exact nomatch z.symm.trans ((kF hu).2.2.2.2.2.2.1)
      have zd : u5 = true := by
        simp [Region.binds] at hd
        simp [hd]
      have H_kS := hide kS
      have H_c2 := hide c2
      have H_c4 := hide c4
      have H_c5 := hide c5
      have H_c6 := hide c6
      have H_c7 := hide c7
      have H_c8 := hide c8
      have H_c9 := hide c9
      have H_c10 := hide c10
      have H_c11 := hide c11
      have H_c12 := hide c12
      have H_c13 := hide c13
      have H_c14 := hide c14
      have H_kF := hide kF
      clear kS c2 c4 c5 c6 c7 c8 c9 c10 c11 c12 c13 c14 kF
      obtain ⟨rfl⟩ := zd
      subst z15_
      subst z
      clear h0 hd
      rw [if_neg (Bool.eq_false_iff.1 (by rfl))]
      refine ⟨fun f hf => trivial, ?_⟩
      exact unhide hK _ _ ⟨u0, u1, u2, u3, u4, true, true, u7, u8, u9, u10, u11, u12, u13, u14, false, dd, rfl, rfl, unhide H_kS, unhide H_c2, unhide H_c4, unhide H_c5, (fun _ => rfl), (fun h => rfl), (fun h => ⟨rfl, (unhide H_c8 h).2⟩), (fun h => rfl), (fun h => ⟨rfl, (unhide H_c10 h).2⟩), (fun h => rfl), (fun h => ⟨rfl, (unhide H_c12 h).2.1, (unhide H_c12 h).2.2.1, (unhide H_c12 h).2.2.2⟩), (fun h => ⟨rfl, rfl, (unhide H_c13 h).2.2⟩), (fun h => ⟨rfl, (unhide H_c14 h).2⟩), (fun h => nomatch h)⟩
    · intro h0 hd K hK
      have z : u7 = false := h0
      have z15_ : u15 = false := by
        cases hu : u15 with
        | false => rfl
        | true => exact nomatch z.symm.trans ((kF hu).2.2.2.2.2.2.2.1)
      have zd : u5 = true := by
        simp [Region.binds] at hd
        simp [hd]
      have H_kS := hide kS
      have H_c2 := hide c2
      have H_c4 := hide c4
      have H_c5 := hide c5
      have H_c6 := hide c6
      have H_c7 := hide c7
      have H_c8 := hide c8
      have H_c9 := hide c9
      have H_c10 := hide c10
      have H_c11 := hide c11
      have H_c12 := hide c12
      have H_c13 := hide c13
      have H_c14 := hide c14
      have H_kF := hide kF
      clear kS c2 c4 c5 c6 c7 c8 c9 c10 c11 c12 c13 c14 kF
      obtain ⟨rfl⟩ := zd
      subst z15_
      subst z
      clear h0 hd
      rw [if_neg (Bool.eq_false_iff.1 (by rfl))]
      refine ⟨fun f hf => trivial, ?_⟩
      exact unhide hK _ _ ⟨u0, u1, u2, u3, u4, true, u6, true, u8, u9, u10, u11, u12, u13, u14, false, dd, rfl, rfl, unhide H_kS, unhide H_c2, unhide H_c4, unhide H_c5, (fun h => rfl), (fun _ => rfl), (fun h => ⟨rfl, rfl⟩), (fun h => rfl), (fun h => ⟨rfl, (unhide H_c10 h).2⟩), (fun h => rfl), (fun h => ⟨rfl, (unhide H_c12 h).2.1, (unhide H_c12 h).2.2.1, (unhide H_c12 h).2.2.2⟩), (fun h => ⟨rfl, (unhide H_c13 h).2.1, (unhide H_c13 h).2.2⟩), (fun h => ⟨rfl, (unhide H_c14 h).2⟩), (fun h => nomatch h)⟩
    · intro h0 hd K hK
      have z : u8 = false := h0
      have z15_ : u15 = false := by
        cases hu : u15 with
        | false => rfl
        | true => exact nomatch z.symm.trans ((kF hu).2.2.2.2.2.2.2.2.1)
      have zd : u5 = true ∧ u7 = true := by
        simp [Region.binds] at hd
        simp [hd]
      have H_kS := hide kS
      have H_c2 := hide c2
      have H_c4 := hide c4
      have H_c5 := hide c5
      have H_c6 := hide c6
      have H_c7 := hide c7
      have H_c8 := hide c8
      have H_c9 := hide c9
      have H_c10 := hide c10
      have H_c11 := hide c11
      have H_c12 := hide c12
      have H_c13 := hide c13
      have H_c14 := hide c14
      have H_kF := hide kF
      clear kS c2 c4 c5 c6 c7 c8 c9 c10 c11 c12 c13 c14 kF
      obtain ⟨rfl, rfl⟩ := zd
      subst z15_
      subst z
      clear h0 hd
      rw [if_neg (Bool.eq_false_iff.1 (by rfl))]
      refine ⟨fun f hf => trivial, ?_⟩
      exact unhide hK _ _ ⟨u0, u1, u2, u3, u4, true, u6, true, true, u9, u10, u11, u12, u13, u14, false, dd, rfl, rfl, unhide H_kS, unhide H_c2, unhide H_c4, unhide H_c5, (fun h => rfl), (fun h => rfl), (fun _ => ⟨rfl, rfl⟩), (fun h => rfl), (fun h => ⟨rfl, (unhide H_c10 h).2⟩), (fun h => rfl), (fun h => ⟨rfl, rfl, (unhide H_c12 h).2.2.1, (unhide H_c12 h).2.2.2⟩), (fun h => ⟨rfl, (unhide H_c13 h).2.1, (unhide H_c13 h).2.2⟩), (fun h => ⟨rfl, (unhide H_c14 h).2⟩), (fun h => nomatch h)⟩
    · intro h0 hd K hK
      have z : u9 = false := h0
      have z15_ : u15 = false := by
        cases hu : u15 with
        | false => rfl
        | true => exact nomatch z.symm.trans ((kF hu).2.2.2.2.2.2.2.2.2.1)
      have zd : u5 = true := by
        simp [Region.binds] at hd
        simp [hd]
      have H_kS := hide kS
      have H_c2 := hide c2
      have H_c4 := hide c4
      have H_c5 := hide c5
      have H_c6 := hide c6
      have H_c7 := hide c7
      have H_c8 := hide c8
      have H_c9 := hide c9
      have H_c10 := hide c10
      have H_c11 := hide c11
      have H_c12 := hide c12
      have H_c13 := hide c13
      have H_c14 := hide c14
      have H_kF := hide kF
      clear kS c2 c4 c5 c6 c7 c8 c9 c10 c11 c12 c13 c14 kF
      obtain ⟨rfl⟩ := zd
      subst z15_
      subst z
      clear h0 hd
      rw [if_neg (Bool.eq_false_iff.1 (by rfl))]
      refine ⟨fun f hf => trivial, ?_⟩
      exact unhide hK _ _ ⟨u0, u1, u2, u3, u4, true, u6, u7, u8, true, u10, u11, u12, u13, u14, false, dd, rfl, rfl, unhide H_kS, unhide H_c2, unhide H_c4, unhide H_c5, (fun h => rfl), (fun h => rfl), (fun h => ⟨rfl, (unhide H_c8 h).2⟩), (fun _ => rfl), (fun h => ⟨rfl, rfl⟩), (fun h => rfl), (fun h => ⟨rfl, (unhide H_c12 h).2.1, (unhide H_c12 h).2.2.1, (unhide H_c12 h).2.2.2⟩), (fun h => ⟨rfl, (unhide H_c13 h).2.1, (unhide H_c13 h).2.2⟩), (fun h => ⟨rfl, (unhide H_c14 h).2⟩), (fun h => nomatch h)⟩
    · intro h0 hd K hK
      have z : u10 = false := h0
      have z15_ : u15 = false := by
        cases hu : u15 with
        | false => rfl
        | true => exact nomatch z.symm.trans ((kF hu).2.2.2.2.2.2.2.2.2.2.1)
      have zd : u5 = true ∧ u9 = true := by
        simp [Region.binds] at hd
        simp [hd]
      have H_kS := hide kS
      have H_c2 := hide c2
      have H_c4 := hide c4
      have H_c5 := hide c5
      have H_c6 := hide c6
      have H_c7 := hide c7
      have H_c8 := hide c8
      have H_c9 := hide c9
      have H_c10 := hide c10
      have H_c11 := hide c11
      have H_c12 := hide c12
      have H_c13 := hide c13
      have H_c14 := hide c14
      have H_kF := hide kF
      clear kS c2 c4 c5 c6 c7 c8 c9 c10 c11 c12 c13 c14 kF
      obtain ⟨rfl, rfl⟩ := zd
      subst z15_
      subst z
      clear h0 hd
      rw [if_neg (Bool.eq_false_iff.1 (by rfl))]
      refine ⟨fun f hf => trivial, ?_⟩
      exact unhide hK _ _ ⟨u0, u1, u2, u3, u4, true, u6, u7, u8, true, true, u11, u12, u13, u14, false, dd, rfl, rfl, unhide H_kS, unhide H_c2, unhide H_c4, unhide H_c5, (fun h => rfl), (fun h => rfl), (fun h => ⟨rfl, (unhide H_c8 h).2⟩), (fun h => rfl), (fun _ => ⟨rfl, rfl⟩), (fun h => rfl), (fun h => ⟨rfl, (unhide H_c12 h).2.1, rfl, (unhide H_c12 h).2.2.2⟩), (fun h => ⟨rfl, (unhide H_c13 h).2.1, (unhide H_c13 h).2.2⟩), (fun h => ⟨rfl, (unhide H_c14 h).2⟩), (fun h => nomatch h)⟩
    · intro h0 hd K hK
      have z : u11 = false := h0
      have z15_ : u15 = false := by
        cases hu : u15 with
        | false => rfl
        | true => exact nomatch z.symm.trans ((kF hu).2.2.2.2.2.2.2.2.2.2.2.1)
      have zd : u5 = true := by
        simp [Region.binds] at hd
        simp [hd]
      have H_kS := hide kS
      have H_c2 := hide c2
      have H_c4 := hide c4
      have H_c5 := hide c5
      have H_c6 := hide c6
      have H_c7 := hide c7
      have H_c8 := hide c8
      have H_c9 := hide c9
      have H_c10 := hide c10
      have H_c11 := hide c11
      have H_c12 := hide c12
      have H_c13 := hide c13
      have H_c14 := hide c14
      have H_kF := hide kF
      clear kS c2 c4 c5 c6 c7 c8 c9 c10 c11 c12 c13 c14 kF
      obtain ⟨rfl⟩ := zd
      subst z15_
      subst z
      clear h0 hd
      rw [if_neg (Bool.eq_false_iff.1 (by rfl))]
      refine ⟨fun f hf => trivial, ?_⟩
      exact unhide hK _ _ ⟨u0, u1, u2, u3, u4, true, u6, u7, u8, u9, u10, true, u12, u13, u14, false, dd, rfl, rfl, unhide H_kS, unhide H_c2, unhide H_c4, unhide H_c5, (fun h => rfl), (fun h => rfl), (fun h => ⟨rfl, (unhide H_c8 h).2⟩), (fun h => rfl), (fun h => ⟨rfl, (unhide H_c10 h).2⟩), (fun _ => rfl), (fun h => ⟨rfl, (unhide H_c12 h).2.1, (unhide H_c12 h).2.2.1, rfl⟩), (fun h => ⟨rfl, (unhide H_c13 h).2.1, (unhide H_c13 h).2.2⟩), (fun h => ⟨rfl, (unhide H_c14 h).2⟩), (fun h => nomatch h)⟩
    · intro h0 hd K hK
      have z : u12 = false := h0
      have z15_ : u15 = false := by
        cases hu : u15 with
        | false => rfl
        | true => exact nomatch z.symm.trans ((kF hu).2.2.2.2.2.2.2.2.2.2.2.2.1)
      have zd : u5 = true ∧ u8 = true ∧ u10 = true ∧ u11 = true := by
        simp [Region.binds] at hd
        simp [hd]
      have H_kS := hide kS
      have H_c2 := hide c2
      have H_c4 := hide c4
      have H_c5 := hide c5
      have H_c6 := hide c6
      have H_c7 := hide c7
      have H_c8 := hide c8
      have H_c9 := hide c9
      have H_c10 := hide c10
      have H_c11 := hide c11
      have H_c12 := hide c12
      have H_c13 := hide c13
      have H_c14 := hide c14
      have H_kF := hide kF
      clear kS c2 c4 c5 c6 c7 c8 c9 c10 c11 c12 c13 c14 kF
      obtain ⟨rfl, rfl, rfl, rfl⟩ := zd
      subst z15_
      subst z
      clear h0 hd
      rw [if_neg (Bool.eq_false_iff.1 (by rfl))]
      refine ⟨fun f hf => trivial, ?_⟩
      exact unhide hK _ _ ⟨u0, u1, u2, u3, u4, true, u6, u7, true, u9, true, true, true, u13, u14, false, dd, rfl, rfl, unhide H_kS, unhide H_c2, unhide H_c4, unhide H_c5, (fun h => rfl), (fun h => rfl), (fun h => ⟨rfl, (unhide H_c8 h).2⟩), (fun h => rfl), (fun h => ⟨rfl, (unhide H_c10 h).2⟩), (fun h => rfl), (fun _ => ⟨rfl, rfl, rfl, rfl⟩), (fun h => ⟨rfl, (unhide H_c13 h).2.1, rfl⟩), (fun h => ⟨rfl, (unhide H_c14 h).2⟩), (fun h => nomatch h)⟩
    · intro h0 hd K hK
      have z : u13 = false := h0
      have z15_ : u15 = false := by
        cases hu : u15 with
        | false => rfl
        | true => exact nomatch z.symm.trans ((kF hu).2.2.2.2.2.2.2.2.2.2.2.2.2.1)
      have zd : u5 = true ∧ u6 = true ∧ u12 = true := by
        simp [Region.binds] at hd
        simp [hd]
      have H_kS := hide kS
      have H_c2 := hide c2
      have H_c4 := hide c4
      have H_c5 := hide c5
      have H_c6 := hide c6
      have H_c7 := hide c7
      have H_c8 := hide c8
      have H_c9 := hide c9
      have H_c10 := hide c10
      have H_c11 := hide c11
      have H_c12 := hide c12
      have H_c13 := hide c13
      have H_c14 := hide c14
      have H_kF := hide kF
      clear kS c2 c4 c5 c6 c7 c8 c9 c10 c11 c12 c13 c14 kF
      obtain ⟨rfl, rfl, rfl⟩ := zd
      subst z15_
      subst z
      clear h0 hd
      rw [if_neg (Bool.eq_false_iff.1 (by rfl))]
      refine ⟨fun f hf => trivial, ?_⟩
      exact unhide hK _ _ ⟨u0, u1, u2, u3, u4, true, true, u7, u8, u9, u10, u11, true, true, u14, false, dd, rfl, rfl, unhide H_kS, unhide H_c2, unhide H_c4, unhide H_c5, (fun h => rfl), (fun h => rfl), (fun h => ⟨rfl, (unhide H_c8 h).2⟩), (fun h => rfl), (fun h => ⟨rfl, (unhide H_c10 h).2⟩), (fun h => rfl), (fun h => ⟨rfl, (unhide H_c12 h).2.1, (unhide H_c12 h).2.2.1, (unhide H_c12 h).2.2.2⟩), (fun _ => ⟨rfl, rfl, rfl⟩), (fun h => ⟨rfl, rfl⟩), (fun h => nomatch h)⟩
    · intro h0 hd K hK
      have z : u14 = false := h0
      have z15_ : u15 = false := by
        cases hu : u15 with
        | false => rfl
        | true => exact nomatch z.symm.trans ((kF hu).2.2.2.2.2.2.2.2.2.2.2.2.2.2)
      have zd : u5 = true ∧ u13 = true := by
        simp [Region.binds] at hd
        simp [hd]
      have H_kS := hide kS
      have H_c2 := hide c2
      have H_c4 := hide c4
      have H_c5 := hide c5
      have H_c6 := hide c6
      have H_c7 := hide c7
      have H_c8 := hide c8
      have H_c9 := hide c9
      have H_c10 := hide c10
      have H_c11 := hide c11
      have H_c12 := hide c12
      have H_c13 := hide c13
      have H_c14 := hide c14
      have H_kF := hide kF
      clear kS c2 c4 c5 c6 c7 c8 c9 c10 c11 c12 c13 c14 kF
      obtain ⟨rfl, rfl⟩ := zd
      subst z15_
      subst z
      clear h0 hd
      rw [if_neg (Bool.eq_false_iff.1 (by rfl))]
      refine ⟨fun f hf => trivial, ?_⟩
      exact unhide hK _ _ ⟨u0, u1, u2, u3, u4, true, u6, u7, u8, u9, u10, u11, u12, true, true, false, dd, rfl, rfl, unhide H_kS, unhide H_c2, unhide H_c4, unhide H_c5, (fun h => rfl), (fun h => rfl), (fun h => ⟨rfl, (unhide H_c8 h).2⟩), (fun h => rfl), (fun h => ⟨rfl, (unhide H_c10 h).2⟩), (fun h => rfl), (fun h => ⟨rfl, (unhide H_c12 h).2.1, (unhide H_c12 h).2.2.1, (unhide H_c12 h).2.2.2⟩), (fun h => ⟨rfl, (unhide H_c13 h).2.1, (unhide H_c13 h).2.2⟩), (fun _ => ⟨rfl, rfl⟩), (fun h => nomatch h)⟩
    · intro h0 hd K hK
      have z : u15 = false := h0
      have zd : u5 = true ∧ u14 = true ∧ u0 = true ∧ u1 = true ∧ u2 = true ∧ u3 = true ∧ u4 = true ∧ u6 = true ∧ u7 = true ∧ u8 = true ∧ u9 = true ∧ u10 = true ∧ u11 = true ∧ u12 = true ∧ u13 = true := by
        simp [Region.binds] at hd
        simp_all
      have H_kS := hide kS
      have H_c2 := hide c2
      have H_c4 := hide c4
      have H_c5 := hide c5
      have H_c6 := hide c6
      have H_c7 := hide c7
      have H_c8 := hide c8
      have H_c9 := hide c9
      have H_c10 := hide c10
      have H_c11 := hide c11
      have H_c12 := hide c12
      have H_c13 := hide c13
      have H_c14 := hide c14
      have H_kF := hide kF
      clear kS c2 c4 c5 c6 c7 c8 c9 c10 c11 c12 c13 c14 kF
      obtain ⟨rfl, rfl, rfl, rfl, rfl, rfl, rfl, rfl, rfl, rfl, rfl, rfl, rfl, rfl, rfl⟩ := zd
      subst z
      clear h0 hd
      rw [if_pos (by rfl)]
      (unfold Oper.wpIn; refine ⟨fun _ _ => trivial, ?_⟩; go_simp)
      exact unhide hK _ _ ⟨true, true, true, true, true, true, true, true, true, true, true, true, true, true, true, true, dd, rfl, rfl, unhide H_kS, (fun _ => ⟨rfl, rfl⟩), (fun _ => ⟨rfl, rfl⟩), (fun _ => rfl), (fun _ => rfl), (fun _ => rfl), (fun _ => ⟨rfl, rfl⟩), (fun _ => rfl), (fun _ => ⟨rfl, rfl⟩), (fun _ => rfl), (fun _ => ⟨rfl, rfl, rfl, rfl⟩), (fun _ => ⟨rfl, rfl, rfl⟩), (fun _ => ⟨rfl, rfl⟩), (fun _ => ⟨rfl, rfl, rfl, rfl, rfl, rfl, rfl, rfl, rfl, rfl, rfl, rfl, rfl, rfl, rfl⟩)⟩
  case hend =>
    rintro Lb A W_ ⟨u0, u1, u2, u3, u4, u5, u6, u7, u8, u9, u10, u11, u12, u13, u14, u15, dd, rfl, rfl, kS, c2, c4, c5, c6, c7, c8, c9, c10, c11, c12, c13, c14, kF⟩ hL
    have hl : u0 = true ∧ u1 = true ∧ u2 = true ∧ u3 = true ∧ u4 = true ∧ u5 = true ∧ u6 = true ∧ u7 = true ∧ u8 = true ∧ u9 = true ∧ u10 = true ∧ u11 = true ∧ u12 = true ∧ u13 = true ∧ u14 = true ∧ u15 = true := by
      have h2 := congrArg Array.toList hL
      simpa [List.replicate] using h2
    obtain ⟨rfl, rfl, rfl, rfl, rfl, rfl, rfl, rfl, rfl, rfl, rfl, rfl, rfl, rfl, rfl, rfl⟩ := hl
    exact unhide HQ _ kS
end Go.Proofs.Ytjhldjojkaphkaa
