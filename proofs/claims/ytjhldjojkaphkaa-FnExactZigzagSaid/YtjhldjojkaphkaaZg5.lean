/-
  A statement of Zigzag, walked alone: the iterator over its places is made.
-/
import Derived.Test.YtjhldjojkaphkaaZgX
namespace Go.Proofs.Ytjhldjojkaphkaa
open Go.ChangeShapes Go.WideShapes Go.ChangeAt Go.RowKit Go.Shelf
attribute [local go_sem] Oper.semAt_some
set_option linter.unusedVariables false
set_option linter.unusedSimpArgs false

noncomputable def reg9 (id : Nat) : Go.Code := match Try.f9.body with | some c => (regOfR id c).getD .skip | none => .skip
set_option maxHeartbeats 4000000 in
set_option maxRecDepth 100000 in
theorem zg5' {s0 s1 s5 s6 s7 s8 s9 s10 s11 s13 s14 s15 s16 s17 s18 s19 s20 s21 s22 s23 s24 s25 s26 s27 s28 s29 s30 s31 s32 s33 s34 s35 s36 s37 s38 s39 s40 s41 s42 s43 s44 s45 s46 s47 s48 s49 s50 s51 s52 s53 s54 s55 s56 s57 s58 s59 s60 s61 s62 s63 s64 s65 s66 s67 : Value} {b4 b12 W H n c g po g2 c2 : Nat} {r s : Nat} {V : World} {sw zw : World → World} {K_ : Act → World → Prop}
    (H4 : Hid (vb V b4 25 [.int .i64 (W : Int), .int .i64 (H : Int), .slice (some ⟨g, po, none⟩) n c])) (H12 : Hid (vb V b12 25 [.int .i64 (W : Int), .int .i64 (H : Int), .slice (some ⟨g2, 0, none⟩) n c2]))
    (HT4 : Hid (∀ X, Below V.heap.size V X → Calls Try.prog 40 #[.agg #[.int .i64 (W : Int), .int .i64 (H : Int), .slice (some ⟨g2, 0, none⟩) n c2], .int .i64 (s : Int)] X fun e w' => e = .returned (.func (.func 74) #[] #[.pointer (some ⟨X.heap.size + 1, 0, none⟩), .pointer (some ⟨X.heap.size, 0, none⟩)]) ∧ Below X.heap.size X w' ∧ w' = sw X))
    (HT5 : Hid (∀ X, Below V.heap.size V X → Calls Try.prog 39 #[.agg #[.int .i64 (W : Int), .int .i64 (H : Int), .slice (some ⟨g, po, none⟩) n c], .int .i64 (r : Int), .func (.func 74) #[] #[.pointer (some ⟨X.heap.size + 1, 0, none⟩), .pointer (some ⟨X.heap.size, 0, none⟩)]] (sw X) fun e w' => e = .returned (.func (.func 72) #[] #[.pointer (some ⟨X.heap.size + 2, 0, none⟩), .pointer (some ⟨X.heap.size + 4, 0, none⟩), .pointer (some ⟨X.heap.size + 3, 0, none⟩)]) ∧ Below X.heap.size X w' ∧ w' = zw X))
    (hQ : ∀ (X : World), Below V.heap.size V X → K_ { tmps := #[s0, s1, .int .i64 (r : Int), .int .i64 (s : Int), .pointer (some ⟨b4, 0, none⟩), s5, s6, s7, s8, s9, s10, s11, .pointer (some ⟨b12, 0, none⟩), s13, s14, s15, s16, s17, s18, s19, s20, s21, s22, s23, s24, s25, s26, s27, s28, s29, s30, s31, s32, s33, .agg #[.int .i64 (W : Int), .int .i64 (H : Int), .slice (some ⟨g, po, none⟩) n c], .int .i64 (r : Int), .agg #[.int .i64 (W : Int), .int .i64 (H : Int), .slice (some ⟨g2, 0, none⟩) n c2], .int .i64 (s : Int), .func (.func 74) #[] #[.pointer (some ⟨X.heap.size + 1, 0, none⟩), .pointer (some ⟨X.heap.size, 0, none⟩)], .func (.func 72) #[] #[.pointer (some ⟨X.heap.size + 2, 0, none⟩), .pointer (some ⟨X.heap.size + 4, 0, none⟩), .pointer (some ⟨X.heap.size + 3, 0, none⟩)], s40, s41, s42, s43, s44, s45, s46, s47, s48, s49, s50, s51, s52, s53, s54, s55, s56, s57, s58, s59, s60, s61, s62, s63, s64, s65, s66, s67], defers := [] } (zw X)) :
    Go.Code.wpIn Fence.wide 0 Try.prog (reg9 5) (Only K_) { tmps := #[s0, s1, .int .i64 (r : Int), .int .i64 (s : Int), .pointer (some ⟨b4, 0, none⟩), s5, s6, s7, s8, s9, s10, s11, .pointer (some ⟨b12, 0, none⟩), s13, s14, s15, s16, s17, s18, s19, s20, s21, s22, s23, s24, s25, s26, s27, s28, s29, s30, s31, s32, s33, s34, s35, s36, s37, s38, s39, s40, s41, s42, s43, s44, s45, s46, s47, s48, s49, s50, s51, s52, s53, s54, s55, s56, s57, s58, s59, s60, s61, s62, s63, s64, s65, s66, s67], defers := [] } V := by
  have HQ := hide hQ
  clear hQ
  conv => arg 4; whnf
  refine wpIn_region_inv (fun Lb A W_ => ∃ (u0 u1 u2 u3 u4 u5 : Bool) (xb : Nat), Lb = #[u0, u1, u2, u3, u4, u5] ∧ A = ({ tmps := #[s0, s1, .int .i64 (r : Int), .int .i64 (s : Int), .pointer (some ⟨b4, 0, none⟩), s5, s6, s7, s8, s9, s10, s11, .pointer (some ⟨b12, 0, none⟩), s13, s14, s15, s16, s17, s18, s19, s20, s21, s22, s23, s24, s25, s26, s27, s28, s29, s30, s31, s32, s33, (bif u0 then .agg #[.int .i64 (W : Int), .int .i64 (H : Int), .slice (some ⟨g, po, none⟩) n c] else s34), (bif u1 then .int .i64 (r : Int) else s35), (bif u2 then .agg #[.int .i64 (W : Int), .int .i64 (H : Int), .slice (some ⟨g2, 0, none⟩) n c2] else s36), (bif u3 then .int .i64 (s : Int) else s37), (bif u4 then .func (.func 74) #[] #[.pointer (some ⟨xb + 1, 0, none⟩), .pointer (some ⟨xb, 0, none⟩)] else s38), (bif u5 then .func (.func 72) #[] #[.pointer (some ⟨xb + 2, 0, none⟩), .pointer (some ⟨xb + 4, 0, none⟩), .pointer (some ⟨xb + 3, 0, none⟩)] else s39), s40, s41, s42, s43, s44, s45, s46, s47, s48, s49, s50, s51, s52, s53, s54, s55, s56, s57, s58, s59, s60, s61, s62, s63, s64, s65, s66, s67], defers := [] } : Act) ∧ Below V.heap.size V W_ ∧ (u4 = true → u5 = false → ∃ X, Below V.heap.size V X ∧ X.heap.size = xb ∧ W_ = sw X) ∧ (u5 = true → ∃ X, Below V.heap.size V X ∧ X.heap.size = xb ∧ W_ = zw X) ∧ (u4 = true → u2 = true ∧ u3 = true) ∧ (u5 = true → u0 = true ∧ u1 = true ∧ u2 = true ∧ u3 = true ∧ u4 = true)) (by kernel_rfl) (by kernel_rfl) ?h0 ?hstep ?hend
  case h0 =>
    exact ⟨false, false, false, false, false, false, 0, rfl, rfl, Below.drew (Below.refl _ _), (fun h => nomatch h), (fun h => nomatch h), (fun h => nomatch h), (fun h => nomatch h)⟩
  case hstep =>
    rintro Lb A W_ ⟨u0, u1, u2, u3, u4, u5, xb, rfl, rfl, kB, kT, kU, c4, kF⟩
    refine ⟨?_, ?_, ?_, ?_, ?_, ?_, trivial⟩
    · intro h0 hd K hK
      have z : u0 = false := h0
      have z5_ : u5 = false := by
        cases hu : u5 with
        | false => rfl
        | true => exact nomatch z.symm.trans ((kF hu).1)
      have H_kB := hide kB
      have H_kT := hide kT
      have H_kU := hide kU
      have H_c4 := hide c4
      have H_kF := hide kF
      clear kB kT kU c4 kF
      subst z5_
      subst z
      clear h0 hd
      rw [if_pos (by rfl)]
      have cc0 := keep1 (unhide H_kB) ((unhide H4).cell (m := 0) rfl)
      have cc1 := keep1 (unhide H_kB) ((unhide H4).cell (m := 1) rfl)
      have cc2 := keep1 (unhide H_kB) ((unhide H4).cell (m := 2) rfl)
      (unfold Oper.wpIn; refine ⟨fun _ _ => trivial, ?_⟩; go_simp)
      exact unhide hK _ _ ⟨true, u1, u2, u3, u4, false, xb, rfl, rfl, unhide H_kB, unhide H_kT, (fun h => nomatch h), unhide H_c4, (fun h => nomatch h)⟩
    · intro h0 hd K hK
      have z : u1 = false := h0
      have z5_ : u5 = false := by
        cases hu : u5 with
        | false => rfl
        | true => exact nomatch z.symm.trans ((kF hu).2.1)
      have H_kB := hide kB
      have H_kT := hide kT
      have H_kU := hide kU
      have H_c4 := hide c4
      have H_kF := hide kF
      clear kB kT kU c4 kF
      subst z5_
      subst z
      clear h0 hd
      rw [if_pos (by rfl)]
      (unfold Oper.wpIn; refine ⟨fun _ _ => trivial, ?_⟩; go_simp)
      exact unhide hK _ _ ⟨u0, true, u2, u3, u4, false, xb, rfl, rfl, unhide H_kB, unhide H_kT, (fun h => nomatch h), unhide H_c4, (fun h => nomatch h)⟩
    · intro h0 hd K hK
      have z : u2 = false := h0
      have z5_ : u5 = false := by
        cases hu : u5 with
        | false => rfl
        | true => exact nomatch z.symm.trans ((kF hu).2.2.1)
      have z4_ : u4 = false := by
        cases hu : u4 with
        | false => rfl
        | true => exact nomatch z.symm.trans ((c4 hu).1)
      have H_kB := hide kB
      have H_kT := hide kT
      have H_kU := hide kU
      have H_c4 := hide c4
      have H_kF := hide kF
      clear kB kT kU c4 kF
      subst z5_
      subst z4_
      subst z
      clear h0 hd
      rw [if_pos (by rfl)]
      have cc0 := keep1 (unhide H_kB) ((unhide H12).cell (m := 0) rfl)
      have cc1 := keep1 (unhide H_kB) ((unhide H12).cell (m := 1) rfl)
      have cc2 := keep1 (unhide H_kB) ((unhide H12).cell (m := 2) rfl)
      (unfold Oper.wpIn; refine ⟨fun _ _ => trivial, ?_⟩; go_simp)
      exact unhide hK _ _ ⟨u0, u1, true, u3, false, false, xb, rfl, rfl, unhide H_kB, (fun h => nomatch h), (fun h => nomatch h), (fun h => nomatch h), (fun h => nomatch h)⟩
    · intro h0 hd K hK
      have z : u3 = false := h0
      have z5_ : u5 = false := by
        cases hu : u5 with
        | false => rfl
        | true => exact nomatch z.symm.trans ((kF hu).2.2.2.1)
      have z4_ : u4 = false := by
        cases hu : u4 with
        | false => rfl
        | true => exact nomatch z.symm.trans ((c4 hu).2)
      have H_kB := hide kB
      have H_kT := hide kT
      have H_kU := hide kU
      have H_c4 := hide c4
      have H_kF := hide kF
      clear kB kT kU c4 kF
      subst z5_
      subst z4_
      subst z
      clear h0 hd
      rw [if_pos (by rfl)]
      (unfold Oper.wpIn; refine ⟨fun _ _ => trivial, ?_⟩; go_simp)
      exact unhide hK _ _ ⟨u0, u1, u2, true, false, false, xb, rfl, rfl, unhide H_kB, (fun h => nomatch h), (fun h => nomatch h), (fun h => nomatch h), (fun h => nomatch h)⟩
    · intro h0 hd K hK
      have z : u4 = false := h0
      have z5_ : u5 = false := by
        cases hu : u5 with
        | false => rfl
        | true => exact nomatch z.symm.trans ((kF hu).2.2.2.2)
      have zd : u2 = true ∧ u3 = true := by
        simp [Region.binds] at hd
        simp [hd]
      have H_kB := hide kB
      have H_kT := hide kT
      have H_kU := hide kU
      have H_c4 := hide c4
      have H_kF := hide kF
      clear kB kT kU c4 kF
      obtain ⟨rfl, rfl⟩ := zd
      subst z5_
      subst z
      clear h0 hd
      rw [if_pos (by rfl)]
      (unfold Oper.wpIn; refine ⟨fun _ _ => trivial, ?_⟩; go_simp)
      refine ⟨by first | rfl | trivial | (intro h; cases h), (callsIn_wide.2 (unhide HT4 _ (unhide H_kB))).mono ?_⟩
      rintro e w8 ⟨rfl, hb8, hq8⟩
      exact unhide hK _ _ ⟨u0, u1, true, true, true, false, W_.heap.size, rfl, rfl, (bc (unhide H_kB) hb8), (fun _ _ => ⟨W_, unhide H_kB, rfl, hq8⟩), (fun h => nomatch h), (fun _ => ⟨rfl, rfl⟩), (fun h => nomatch h)⟩
    · intro h0 hd K hK
      have z : u5 = false := h0
      have zd : u0 = true ∧ u1 = true ∧ u4 = true ∧ u2 = true ∧ u3 = true := by
        simp [Region.binds] at hd
        simp_all
      have H_kB := hide kB
      have H_kT := hide kT
      have H_kU := hide kU
      have H_c4 := hide c4
      have H_kF := hide kF
      clear kB kT kU c4 kF
      obtain ⟨rfl, rfl, rfl, rfl, rfl⟩ := zd
      subst z
      clear h0 hd
      rw [if_pos (by rfl)]
      obtain ⟨X, hX, rfl, rfl⟩ := unhide H_kT rfl rfl
      (unfold Oper.wpIn; refine ⟨fun _ _ => trivial, ?_⟩; go_simp)
      refine ⟨by first | rfl | trivial | (intro h; cases h), (callsIn_wide.2 (unhide HT5 X hX)).mono ?_⟩
      rintro e w8 ⟨rfl, hb8, hq8⟩
      exact unhide hK _ _ ⟨true, true, true, true, true, true, X.heap.size, rfl, rfl, (bc hX hb8), (fun _ h => nomatch h), (fun _ => ⟨X, hX, rfl, hq8⟩), (fun _ => ⟨rfl, rfl⟩), (fun _ => ⟨rfl, rfl, rfl, rfl, rfl⟩)⟩
  case hend =>
    rintro Lb A W_ ⟨u0, u1, u2, u3, u4, u5, xb, rfl, rfl, kB, kT, kU, c4, kF⟩ hL
    have hl : u0 = true ∧ u1 = true ∧ u2 = true ∧ u3 = true ∧ u4 = true ∧ u5 = true := by
      have h2 := congrArg Array.toList hL
      simpa [List.replicate] using h2
    obtain ⟨rfl, rfl, rfl, rfl, rfl, rfl⟩ := hl
    obtain ⟨X, hX, rfl, rfl⟩ := kU rfl
    exact unhide HQ X hX
/-- the iterator that the program makes, and the world that it lies in -/
theorem zg5 {s0 s1 s5 s6 s7 s8 s9 s10 s11 s13 s14 s15 s16 s17 s18 s19 s20 s21 s22 s23 s24 s25 s26 s27 s28 s29 s30 s31 s32 s33 s34 s35 s36 s37 s38 s39 s40 s41 s42 s43 s44 s45 s46 s47 s48 s49 s50 s51 s52 s53 s54 s55 s56 s57 s58 s59 s60 s61 s62 s63 s64 s65 s66 s67 : Value} {b4 b12 W H n c g po g2 c2 : Nat} {r s : Nat} {V : World} {K_ : Act → World → Prop}
    (H4 : Hid (vb V b4 25 [.int .i64 (W : Int), .int .i64 (H : Int), .slice (some ⟨g, po, none⟩) n c])) (H12 : Hid (vb V b12 25 [.int .i64 (W : Int), .int .i64 (H : Int), .slice (some ⟨g2, 0, none⟩) n c2]))
    (hQ : ∀ (X : World), Below V.heap.size V X → K_ { tmps := #[s0, s1, .int .i64 (r : Int), .int .i64 (s : Int), .pointer (some ⟨b4, 0, none⟩), s5, s6, s7, s8, s9, s10, s11, .pointer (some ⟨b12, 0, none⟩), s13, s14, s15, s16, s17, s18, s19, s20, s21, s22, s23, s24, s25, s26, s27, s28, s29, s30, s31, s32, s33, .agg #[.int .i64 (W : Int), .int .i64 (H : Int), .slice (some ⟨g, po, none⟩) n c], .int .i64 (r : Int), .agg #[.int .i64 (W : Int), .int .i64 (H : Int), .slice (some ⟨g2, 0, none⟩) n c2], .int .i64 (s : Int), .func (.func 74) #[] #[.pointer (some ⟨X.heap.size + 1, 0, none⟩), .pointer (some ⟨X.heap.size, 0, none⟩)], .func (.func 72) #[] #[.pointer (some ⟨X.heap.size + 2, 0, none⟩), .pointer (some ⟨X.heap.size + 4, 0, none⟩), .pointer (some ⟨X.heap.size + 3, 0, none⟩)], s40, s41, s42, s43, s44, s45, s46, s47, s48, s49, s50, s51, s52, s53, s54, s55, s56, s57, s58, s59, s60, s61, s62, s63, s64, s65, s66, s67], defers := [] } (((((X.alloc (.cells #[.int .i64 (W : Int), .int .i64 (H : Int), .slice (some ⟨g2, 0, none⟩) n c2] 25)).alloc (.cells #[.int .i64 (s : Int)] 3)).alloc (.cells #[.int .i64 (W : Int), .int .i64 (H : Int), .slice (some ⟨g, po, none⟩) n c] 25)).alloc (.cells #[.int .i64 (r : Int)] 3)).alloc (.cells #[.func (.func 74) #[] #[.pointer (some ⟨X.heap.size + 1, 0, none⟩), .pointer (some ⟨X.heap.size, 0, none⟩)]] 69))) :
    Go.Code.wpIn Fence.wide 0 Try.prog (reg9 5) (Only K_) { tmps := #[s0, s1, .int .i64 (r : Int), .int .i64 (s : Int), .pointer (some ⟨b4, 0, none⟩), s5, s6, s7, s8, s9, s10, s11, .pointer (some ⟨b12, 0, none⟩), s13, s14, s15, s16, s17, s18, s19, s20, s21, s22, s23, s24, s25, s26, s27, s28, s29, s30, s31, s32, s33, s34, s35, s36, s37, s38, s39, s40, s41, s42, s43, s44, s45, s46, s47, s48, s49, s50, s51, s52, s53, s54, s55, s56, s57, s58, s59, s60, s61, s62, s63, s64, s65, s66, s67], defers := [] } V := by
  refine zg5' (sw := fun X => ((X.alloc (.cells #[.int .i64 (W : Int), .int .i64 (H : Int), .slice (some ⟨g2, 0, none⟩) n c2] 25)).alloc (.cells #[.int .i64 (s : Int)] 3))) (zw := fun X => ((((X.alloc (.cells #[.int .i64 (W : Int), .int .i64 (H : Int), .slice (some ⟨g2, 0, none⟩) n c2] 25)).alloc (.cells #[.int .i64 (s : Int)] 3)).alloc (.cells #[.int .i64 (W : Int), .int .i64 (H : Int), .slice (some ⟨g, po, none⟩) n c] 25)).alloc (.cells #[.int .i64 (r : Int)] 3)).alloc (.cells #[.func (.func 74) #[] #[.pointer (some ⟨X.heap.size + 1, 0, none⟩), .pointer (some ⟨X.heap.size, 0, none⟩)]] 69)) H4 H12 (hide fun X hX => ?_) (hide fun X hX => ?_) hQ
  · refine (stdM W H n c2 g2 0 (s : Int) X).mono ?_
    rintro e w' ⟨rfl, rfl⟩
    exact ⟨rfl, ba (ba (Below.refl _ _) _) _, rfl⟩
  · refine (takM W H n c g po 74 _ (r : Int) _).mono ?_
    rintro e w' ⟨rfl, rfl⟩
    refine ⟨?_, ba (ba (ba (ba (ba (Below.refl _ _) _) _) _) _) _, rfl⟩
    simp only [World.size_alloc]
end Go.Proofs.Ytjhldjojkaphkaa
