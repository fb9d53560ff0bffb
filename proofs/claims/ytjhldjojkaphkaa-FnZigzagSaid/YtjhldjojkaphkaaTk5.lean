/-
  A statement of the iterator over places that take something, walked alone.
-/
import Derived.Test.YtjhldjojkaphkaaSt5
import Derived.Test.YtjhldjojkaphkaaTak
namespace Go.Proofs.Ytjhldjojkaphkaa
open Go.ChangeShapes Go.WideShapes Go.ChangeAt Go.RowKit Go.Shelf
attribute [local go_sem] Oper.semAt_some
set_option linter.unusedVariables false
set_option linter.unusedSimpArgs false

noncomputable def reg72 (id : Nat) : Go.Code := match Try.f72.body with | some c => (regOfR id c).getD .skip | none => .skip
set_option maxHeartbeats 4000000 in
set_option maxRecDepth 100000 in
theorem tk5 {s0 s1 s2 s3 s4 s5 s8 s9 s10 s11 s12 s13 s14 s15 s16 s17 s18 s19 s20 s21 s22 s23 s24 s25 s26 s27 s28 s29 s30 s31 s32 s33 : Value} {uv : Value} {l' b6 : Nat} {x y z t : Int} {V : World} {K_ : Act → World → Prop}
    (H6 : Hid (vb V b6 73 [.int .i64 x, .int .i64 y, .int .i64 z]))
    (HT : Hid (∀ X, Below V.heap.size V X → Calls Try.prog 38 #[uv] X fun e w' => e = .returned (.int .i64 t) ∧ Below X.heap.size X w'))
    (hQ : ∀ (W' : World), Below V.heap.size V W' → K_ { tmps := #[s0, s1, s2, s3, s4, s5, .pointer (some ⟨b6, 0, none⟩), uv, s8, s9, s10, s11, s12, s13, s14, s15, s16, s17, s18, s19, s20, uv, .int .i64 (t), .pointer (some ⟨b6, 2, none⟩), .int .i64 (z), .bool (decide (t ≤ z)), s26, s27, s28, s29, s30, s31, s32, s33], defers := [] } W') :
    Go.Code.wpIn (Fence.wide.inRound l') 0 Try.prog (reg72 5) (Only K_) { tmps := #[s0, s1, s2, s3, s4, s5, .pointer (some ⟨b6, 0, none⟩), uv, s8, s9, s10, s11, s12, s13, s14, s15, s16, s17, s18, s19, s20, s21, s22, s23, s24, s25, s26, s27, s28, s29, s30, s31, s32, s33], defers := [] } V := by
  have HQ := hide hQ
  clear hQ
  conv => arg 4; whnf
  refine wpIn_region_inv (fun Lb A W_ => ∃ (u0 u1 u2 u3 u4 : Bool) (dd : Nat), Lb = #[u0, u1, u2, u3, u4] ∧ A = ({ tmps := #[s0, s1, s2, s3, s4, s5, .pointer (some ⟨b6, 0, none⟩), uv, s8, s9, s10, s11, s12, s13, s14, s15, s16, s17, s18, s19, s20, (bif u0 then uv else s21), (bif u1 then .int .i64 (t) else s22), (bif u2 then .pointer (some ⟨b6, 2, none⟩) else s23), (bif u3 then .int .i64 (z) else s24), (bif u4 then .bool (decide (t ≤ z)) else s25), s26, s27, s28, s29, s30, s31, s32, s33], defers := [] } : Act) ∧ Below V.heap.size V W_ ∧ (u1 = true → u0 = true) ∧ (u3 = true → u2 = true) ∧ (u4 = true → u0 = true ∧ u1 = true ∧ u2 = true ∧ u3 = true)) (by kernel_rfl) (by kernel_rfl) ?h0 ?hstep ?hend
  case h0 =>
    exact ⟨false, false, false, false, false, 0, rfl, rfl, Below.drew (Below.refl _ _), (fun h => nomatch h), (fun h => nomatch h), (fun h => nomatch h)⟩
  case hstep =>
    rintro Lb A W_ ⟨u0, u1, u2, u3, u4, dd, rfl, rfl, kS, c1, c3, kF⟩
    refine ⟨?_, ?_, ?_, ?_, ?_, trivial⟩
    · intro h0 hd K hK
      have z : u0 = false := h0
      have z4_ : u4 = false := by
        cases hu : u4 with
        | false => rfl
        | true => exact nomatch z.symm.trans ((kF hu).1)
      have H_kS := hide kS
      have H_c1 := hide c1
      have H_c3 := hide c3
      have H_kF := hide kF
      clear kS c1 c3 kF
      subst z4_
      subst z
      clear h0 hd
      rw [if_pos (by rfl)]
      (unfold Oper.wpIn; refine ⟨fun _ _ => trivial, ?_⟩; go_simp)
      exact unhide hK _ _ ⟨true, u1, u2, u3, false, dd, rfl, rfl, unhide H_kS, (fun h => rfl), unhide H_c3, (fun h => nomatch h)⟩
    · intro h0 hd K hK
      have z : u1 = false := h0
      have z4_ : u4 = false := by
        cases hu : u4 with
        | false => rfl
        | true => exact nomatch z.symm.trans ((kF hu).2.1)
      have zd : u0 = true := by
        simp [Region.binds] at hd
        simp [hd]
      have H_kS := hide kS
      have H_c1 := hide c1
      have H_c3 := hide c3
      have H_kF := hide kF
      clear kS c1 c3 kF
      obtain ⟨rfl⟩ := zd
      subst z4_
      subst z
      clear h0 hd
      rw [if_pos (by rfl)]
      (unfold Oper.wpIn; refine ⟨fun _ _ => trivial, ?_⟩; go_simp)
      refine ⟨by first | rfl | trivial | (intro h; cases h), (CallsIn.inRound l' (callsIn_wide.2 (unhide HT _ (unhide H_kS)))).mono ?_⟩
      rintro e w8 ⟨rfl, hb8⟩
      exact unhide hK _ _ ⟨true, true, u2, u3, false, dd, rfl, rfl, (bc (unhide H_kS) hb8), (fun _ => rfl), unhide H_c3, (fun h => nomatch h)⟩
    · intro h0 hd K hK
      have z : u2 = false := h0
      have z4_ : u4 = false := by
        cases hu : u4 with
        | false => rfl
        | true => exact nomatch z.symm.trans ((kF hu).2.2.1)
      have H_kS := hide kS
      have H_c1 := hide c1
      have H_c3 := hide c3
      have H_kF := hide kF
      clear kS c1 c3 kF
      subst z4_
      subst z
      clear h0 hd
      rw [if_pos (by rfl)]
      (unfold Oper.wpIn; refine ⟨fun _ _ => trivial, ?_⟩; go_simp)
      exact unhide hK _ _ ⟨u0, u1, true, u3, false, dd, rfl, rfl, unhide H_kS, unhide H_c1, (fun h => rfl), (fun h => nomatch h)⟩
    · intro h0 hd K hK
      have z : u3 = false := h0
      have z4_ : u4 = false := by
        cases hu : u4 with
        | false => rfl
        | true => exact nomatch z.symm.trans ((kF hu).2.2.2)
      have zd : u2 = true := by
        simp [Region.binds] at hd
        simp [hd]
      have H_kS := hide kS
      have H_c1 := hide c1
      have H_c3 := hide c3
      have H_kF := hide kF
      clear kS c1 c3 kF
      obtain ⟨rfl⟩ := zd
      subst z4_
      subst z
      clear h0 hd
      rw [if_pos (by rfl)]
      have cc0 := keep1 (unhide H_kS) ((unhide H6).cell (m := 2) rfl)
      (unfold Oper.wpIn; refine ⟨fun _ _ => trivial, ?_⟩; go_simp)
      exact unhide hK _ _ ⟨u0, u1, true, true, false, dd, rfl, rfl, unhide H_kS, unhide H_c1, (fun _ => rfl), (fun h => nomatch h)⟩
    · intro h0 hd K hK
      have z : u4 = false := h0
      have zd : u1 = true ∧ u3 = true ∧ u0 = true ∧ u2 = true := by
        simp [Region.binds] at hd
        simp_all
      have H_kS := hide kS
      have H_c1 := hide c1
      have H_c3 := hide c3
      have H_kF := hide kF
      clear kS c1 c3 kF
      obtain ⟨rfl, rfl, rfl, rfl⟩ := zd
      subst z
      clear h0 hd
      rw [if_pos (by rfl)]
      (unfold Oper.wpIn; refine ⟨fun _ _ => trivial, ?_⟩; go_simp)
      exact unhide hK _ _ ⟨true, true, true, true, true, dd, rfl, rfl, unhide H_kS, (fun _ => rfl), (fun _ => rfl), (fun _ => ⟨rfl, rfl, rfl, rfl⟩)⟩
  case hend =>
    rintro Lb A W_ ⟨u0, u1, u2, u3, u4, dd, rfl, rfl, kS, c1, c3, kF⟩ hL
    have hl : u0 = true ∧ u1 = true ∧ u2 = true ∧ u3 = true ∧ u4 = true := by
      have h2 := congrArg Array.toList hL
      simpa [List.replicate] using h2
    obtain ⟨rfl, rfl, rfl, rfl, rfl⟩ := hl
    exact unhide HQ _ kS
end Go.Proofs.Ytjhldjojkaphkaa
