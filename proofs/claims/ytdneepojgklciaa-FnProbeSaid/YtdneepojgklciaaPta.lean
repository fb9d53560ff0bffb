/-
  A drawn point is a right one, whatever the code.
-/
import Derived.Test.YtdneepojgklciaaOwnY
import Derived.Test.YtdneepojgklciaaPts
import Derived.Test.YtdneepojgklciaaInv
namespace Go.Proofs.Ytdneepojgklciaa
open Go.ChangeShapes Go.WideShapes Go.ChangeAt Go.RowKit
set_option linter.unusedVariables false
set_option linter.unusedSimpArgs false

/-- on the way to a point: the source, what is kept, the point's own block -/
structure Ps (B g T : Nat) (k : Int) (w : World) (x y : Int) (W : World) : Prop where
  so : So B g k W
  mv : Mv g w W
  tb : W.heap[T]? = some (.cells #[.int .i64 x, .int .i64 y] 26)
  hT : w.heap.size ≤ T
  hg : g < w.heap.size
theorem Ps.lt {B g T : Nat} {k : Int} {w W : World} {x y : Int} (h : Ps B g T k w x y W) : T < W.heap.size := (Array.getElem?_eq_some_iff.1 h.tb).1
theorem Ps.up {B g T : Nat} {k k' : Int} {w W : World} {x y : Int} (h : Ps B g T k w x y W) (hk : k ≤ k') : Ps B g T k' w x y W := ⟨h.so.up hk, h.mv, h.tb, h.hT, h.hg⟩
theorem Ps.step {B g T : Nat} {k k' : Int} {w W W' : World} {x y : Int} (h : Ps B g T k w x y W) (hs : So B g k' W') (mv : Mv g W W') : Ps B g T k' w x y W' :=
  ⟨hs, h.mv.trans mv, (mv.block _ h.lt (by have := h.hT; have := h.hg; omega)).trans h.tb, h.hT, h.hg⟩
theorem Ps.bel {B g T : Nat} {k : Int} {w W W' : World} {x y : Int} (h : Ps B g T k w x y W) (hb : Below W.heap.size W W') : Ps B g T k w x y W' := h.step (h.so.bel hb) (Mv.of_bel hb)
theorem Ps.alloc {B g T : Nat} {k : Int} {w W : World} {x y : Int} (h : Ps B g T k w x y W) (o : Obj) : Ps B g T k w x y (W.alloc o) := h.bel (ba (Below.refl _ _) o)
theorem Ps.drew {B g T : Nat} {k : Int} {w W : World} {x y : Int} (h : Ps B g T k w x y W) : Ps B g T k w x y W.drew := h.bel (Below.drew (Below.refl _ _))
theorem Ps.put {B g T : Nat} {k k' : Int} {w W : World} {x y : Int} (h : Ps B g T k w x y W) (X Y : Int) (hk : k ≤ k') : Ps B g T k' w X Y ((W.setCell ⟨T, 0, none⟩ (.int .i64 X)).setCell ⟨T, 1, none⟩ (.int .i64 Y)) := by
  have h1 := h.hT
  have h2 := h.hg
  have h3 := h.so.above
  exact ⟨((h.so.set (by omega) (by omega) _ _).set (by omega) (by omega) _ _).up hk, (h.mv.new h1 _ _).new h1 _ _, pair_set h.tb, h1, h2⟩
theorem three_ok (i : Nat) (h : i < 3) : -100000 ≤ gt [100000, -100000, 0] i ∧ gt [100000, -100000, 0] i ≤ 100000 := by
  have hi : i = 0 ∨ i = 1 ∨ i = 2 := by omega
  rcases hi with rfl | rfl | rfl <;> decide
theorem three_ok2 (i : Nat) (h : i < 3) : -100000 ≤ gt [100000, -100000, 1] i ∧ gt [100000, -100000, 1] i ≤ 100000 := by
  have hi : i = 0 ∨ i = 1 ∨ i = 2 := by omega
  rcases hi with rfl | rfl | rfl <;> decide
noncomputable def reg30 (id : Nat) : Go.Code := match Try.f26.body with | some c => (regOf id c).getD .skip | none => .skip

set_option maxHeartbeats 4000000 in
set_option maxRecDepth 100000 in
theorem pt5 {s1 s3 s4 s5 s6 s7 s8 s9 s10 s11 s12 s13 s14 s15 s16 s17 s18 s19 s20 s21 s22 s23 s24 s25 s26 s27 s28 s29 s30 s31 s32 s33 : Value} {B g T : Nat} {k : Int} {w V : World} {K_ : Act → World → Prop} (hk : k ≤ 900000000)
    (H2 : Hid (Ps B g T k w 0 0 V))
    (hQ : ∀ (y16 y17 y18 y19 y20 y21 y22 y23 y24 y25 y26 : Value) (X Y : Int) (W' : World), -100000 ≤ X ∧ X ≤ 100000 → -100000 ≤ Y ∧ Y ≤ 100000 → Ps B g T (k + 6) w X Y W' → K_ { tmps := #[.pointer (some ⟨g, 0, none⟩), s1, .pointer (some ⟨T, 0, none⟩), s3, s4, s5, s6, s7, s8, s9, s10, s11, s12, s13, s14, s15, y16, y17, y18, y19, y20, y21, y22, y23, y24, y25, y26, s27, s28, s29, s30, s31, s32, s33], defers := [] } W') :
    Go.Code.wp Try.prog (reg30 5) (Only K_) { tmps := #[.pointer (some ⟨g, 0, none⟩), s1, .pointer (some ⟨T, 0, none⟩), s3, s4, s5, s6, s7, s8, s9, s10, s11, s12, s13, s14, s15, s16, s17, s18, s19, s20, s21, s22, s23, s24, s25, s26, s27, s28, s29, s30, s31, s32, s33], defers := [] } V := by
  have HQ := hide hQ
  clear hQ
  conv => arg 2; whnf
  refine wp_region_inv (fun Lb A W => ∃ (u0 u1 u2 u3 u4 u5 u6 u7 u8 u9 u10 u11 : Bool) (p : Nat) (q : Nat) (rN : Nat) (sN : Nat), Lb = #[u0, u1, u2, u3, u4, u5, u6, u7, u8, u9, u10, u11] ∧ A = ({ tmps := #[.pointer (some ⟨g, 0, none⟩), s1, .pointer (some ⟨T, 0, none⟩), s3, s4, s5, s6, s7, s8, s9, s10, s11, s12, s13, s14, s15, (bif u0 then .slice (some ⟨p, 0, none⟩) 3 3 else s16), (bif u1 then .pointer (some ⟨g, 0, none⟩) else s17), (bif u2 then .int .i64 ((rN : Int)) else s18), (bif u3 then .pointer (some ⟨p, rN, none⟩) else s19), (bif u4 then .int .i64 (gt [100000, -100000, 0] rN) else s20), (bif u5 then .slice (some ⟨q, 0, none⟩) 3 3 else s21), (bif u6 then .pointer (some ⟨g, 0, none⟩) else s22), (bif u7 then .int .i64 ((sN : Int)) else s23), (bif u8 then .pointer (some ⟨q, sN, none⟩) else s24), (bif u9 then .int .i64 (gt [100000, -100000, 1] sN) else s25), (bif u10 then .agg #[.int .i64 (gt [100000, -100000, 0] rN), .int .i64 (gt [100000, -100000, 1] sN)] else s26), s27, s28, s29, s30, s31, s32, s33], defers := [] } : Act) ∧ (u11 = false → Ps B g T (k + (bif u2 then 3 else 0) + (bif u7 then 3 else 0)) w 0 0 W) ∧ (u2 = true → (rN : Int) < 3) ∧ (u7 = true → (sN : Int) < 3) ∧ (u0 = true → iblk W p 3 [100000, -100000, 0] ∧ p ≠ g ∧ p ≠ T) ∧ (u5 = true → iblk W q 3 [100000, -100000, 1] ∧ q ≠ g ∧ q ≠ T) ∧ (u11 = true → Ps B g T (k + 6) w (gt [100000, -100000, 0] rN) (gt [100000, -100000, 1] sN) W) ∧ (u2 = true → u1 = true) ∧ (u3 = true → u0 = true ∧ u2 = true) ∧ (u4 = true → u3 = true) ∧ (u7 = true → u6 = true ∧ u2 = true) ∧ (u8 = true → u5 = true ∧ u7 = true) ∧ (u9 = true → u8 = true) ∧ (u10 = true → u4 = true ∧ u9 = true) ∧ (u11 = true → u0 = true ∧ u1 = true ∧ u2 = true ∧ u3 = true ∧ u4 = true ∧ u5 = true ∧ u6 = true ∧ u7 = true ∧ u8 = true ∧ u9 = true ∧ u10 = true)) (by kernel_rfl) (by kernel_rfl) ?h0 ?hstep ?hend
  case h0 =>
    exact ⟨false, false, false, false, false, false, false, false, false, false, false, false, 0, 0, 0, 0, rfl, rfl, (fun _ => by have := (unhide H2).drew; simpa using this), (fun h => nomatch h), (fun h => nomatch h), (fun h => nomatch h), (fun h => nomatch h), (fun h => nomatch h), (fun h => nomatch h), (fun h => nomatch h), (fun h => nomatch h), (fun h => nomatch h), (fun h => nomatch h), (fun h => nomatch h), (fun h => nomatch h), (fun h => nomatch h)⟩
  case hstep =>
    rintro Lb A W ⟨u0, u1, u2, u3, u4, u5, u6, u7, u8, u9, u10, u11, p, q, rN, sN, rfl, rfl, kS, b2, b7, q0, q5, kZ, c2, c3, c4, c7, c8, c9, c10, kF⟩
    refine ⟨?_, ?_, ?_, ?_, ?_, ?_, ?_, ?_, ?_, ?_, ?_, ?_, trivial⟩
    · intro h0 hd K hK
      have z : u0 = false := h0
      have z11_ : u11 = false := by
        cases hu : u11 with
        | false => rfl
        | true => exact nomatch z.symm.trans ((kF hu).1)
      have z3_ : u3 = false := by
        cases hu : u3 with
        | false => rfl
        | true => exact nomatch z.symm.trans ((c3 hu).1)
      have H_kS := hide kS
      have H_b2 := hide b2
      have H_b7 := hide b7
      have H_q0 := hide q0
      have H_q5 := hide q5
      have H_kZ := hide kZ
      have H_c2 := hide c2
      have H_c3 := hide c3
      have H_c4 := hide c4
      have H_c7 := hide c7
      have H_c8 := hide c8
      have H_c9 := hide c9
      have H_c10 := hide c10
      have H_kF := hide kF
      clear kS b2 b7 q0 q5 kZ c2 c3 c4 c7 c8 c9 c10 kF
      subst z11_
      subst z3_
      subst z
      clear h0 hd
      rw [if_pos (by rfl)]
      go_simp
      exact unhide hK _ _ ⟨true, u1, u2, false, u4, u5, u6, u7, u8, u9, u10, false, W.heap.size, q, rN, sN, rfl, rfl, (fun _ => (unhide H_kS rfl).alloc _), unhide H_b2, unhide H_b7, (fun _ => ⟨heap_alloc_new W _, by have := (unhide H_kS rfl).so.lt; omega, by have := (unhide H_kS rfl).lt; omega⟩), (fun h => ⟨(Below.heap_alloc _ _ _ (unhide H_q5 h).1.lt).trans (unhide H_q5 h).1, (unhide H_q5 h).2⟩), (fun h => nomatch h), unhide H_c2, (fun h => nomatch h), unhide H_c4, unhide H_c7, unhide H_c8, unhide H_c9, unhide H_c10, (fun h => nomatch h)⟩
    · intro h0 hd K hK
      have z : u1 = false := h0
      have z11_ : u11 = false := by
        cases hu : u11 with
        | false => rfl
        | true => exact nomatch z.symm.trans ((kF hu).2.1)
      have H_kS := hide kS
      have H_b2 := hide b2
      have H_b7 := hide b7
      have H_q0 := hide q0
      have H_q5 := hide q5
      have H_kZ := hide kZ
      have H_c2 := hide c2
      have H_c3 := hide c3
      have H_c4 := hide c4
      have H_c7 := hide c7
      have H_c8 := hide c8
      have H_c9 := hide c9
      have H_c10 := hide c10
      have H_kF := hide kF
      clear kS b2 b7 q0 q5 kZ c2 c3 c4 c7 c8 c9 c10 kF
      subst z11_
      subst z
      clear h0 hd
      rw [if_pos (by rfl)]
      go_simp
      exact unhide hK _ _ ⟨u0, true, u2, u3, u4, u5, u6, u7, u8, u9, u10, false, p, q, rN, sN, rfl, rfl, unhide H_kS, unhide H_b2, unhide H_b7, unhide H_q0, unhide H_q5, (fun h => nomatch h), (fun h => rfl), unhide H_c3, unhide H_c4, unhide H_c7, unhide H_c8, unhide H_c9, unhide H_c10, (fun h => nomatch h)⟩
    · intro h0 hd K hK
      have z : u2 = false := h0
      have z11_ : u11 = false := by
        cases hu : u11 with
        | false => rfl
        | true => exact nomatch z.symm.trans ((kF hu).2.2.1)
      have z3_ : u3 = false := by
        cases hu : u3 with
        | false => rfl
        | true => exact nomatch z.symm.trans ((c3 hu).2)
      have z4_ : u4 = false := by
        cases hu : u4 with
        | false => rfl
        | true => exact nomatch z.symm.trans ((c3 (c4 hu)).2)
      have z7_ : u7 = false := by
        cases hu : u7 with
        | false => rfl
        | true => exact nomatch z.symm.trans ((c7 hu).2)
      have z10_ : u10 = false := by
        cases hu : u10 with
        | false => rfl
        | true => exact nomatch z.symm.trans ((c3 (c4 (c10 hu).1)).2)
      have zd : u1 = true := by
        simp [Region.binds] at hd
        simp [hd]
      have H_kS := hide kS
      have H_b2 := hide b2
      have H_b7 := hide b7
      have H_q0 := hide q0
      have H_q5 := hide q5
      have H_kZ := hide kZ
      have H_c2 := hide c2
      have H_c3 := hide c3
      have H_c4 := hide c4
      have H_c7 := hide c7
      have H_c8 := hide c8
      have H_c9 := hide c9
      have H_c10 := hide c10
      have H_kF := hide kF
      clear kS b2 b7 q0 q5 kZ c2 c3 c4 c7 c8 c9 c10 kF
      obtain ⟨rfl⟩ := zd
      subst z11_
      subst z3_
      subst z4_
      subst z7_
      subst z10_
      subst z
      clear h0 hd
      rw [if_pos (by rfl)]
      have HSS : Ps B g T k w 0 0 W := by have := unhide H_kS rfl; simpa using this
      go_simp
      refine (next_any (k := k) 3 HSS.so (by omega) (by omega) (by omega)).mono ?_
      rintro e w8 ⟨r, rfl, hr1, hr2, hs, mv⟩
      obtain ⟨nN, rfl⟩ := Int.eq_ofNat_of_zero_le hr1
      exact unhide hK _ _ ⟨u0, true, true, false, false, u5, u6, false, u8, u9, false, false, p, q, nN, sN, rfl, rfl, (fun _ => by have := HSS.step hs mv; simp; exact this.up (by omega)), (fun _ => hr2), (fun h => nomatch h), (fun h => ⟨(mv.block _ (unhide H_q0 h).1.lt (unhide H_q0 h).2.1).trans (unhide H_q0 h).1, (unhide H_q0 h).2⟩), (fun h => ⟨(mv.block _ (unhide H_q5 h).1.lt (unhide H_q5 h).2.1).trans (unhide H_q5 h).1, (unhide H_q5 h).2⟩), (fun h => nomatch h), (fun _ => rfl), (fun h => nomatch h), (fun h => nomatch h), (fun h => nomatch h), unhide H_c8, unhide H_c9, (fun h => nomatch h), (fun h => nomatch h)⟩
    · intro h0 hd K hK
      have z : u3 = false := h0
      have z11_ : u11 = false := by
        cases hu : u11 with
        | false => rfl
        | true => exact nomatch z.symm.trans ((kF hu).2.2.2.1)
      have zd : u0 = true ∧ u2 = true := by
        simp [Region.binds] at hd
        simp [hd]
      have H_kS := hide kS
      have H_b2 := hide b2
      have H_b7 := hide b7
      have H_q0 := hide q0
      have H_q5 := hide q5
      have H_kZ := hide kZ
      have H_c2 := hide c2
      have H_c3 := hide c3
      have H_c4 := hide c4
      have H_c7 := hide c7
      have H_c8 := hide c8
      have H_c9 := hide c9
      have H_c10 := hide c10
      have H_kF := hide kF
      clear kS b2 b7 q0 q5 kZ c2 c3 c4 c7 c8 c9 c10 kF
      obtain ⟨rfl, rfl⟩ := zd
      subst z11_
      subst z
      clear h0 hd
      rw [if_pos (by rfl)]
      have hb := unhide H_b2 rfl
      have o4 : rN < 3 := by omega
      have o5 : (0 : Int) ≤ (rN : Int) := by omega
      go_simp
      exact unhide hK _ _ ⟨true, u1, true, true, u4, u5, u6, u7, u8, u9, u10, false, p, q, rN, sN, rfl, rfl, unhide H_kS, unhide H_b2, unhide H_b7, unhide H_q0, unhide H_q5, (fun h => nomatch h), unhide H_c2, (fun _ => ⟨rfl, rfl⟩), (fun h => rfl), (fun h => ⟨(unhide H_c7 h).1, rfl⟩), unhide H_c8, unhide H_c9, unhide H_c10, (fun h => nomatch h)⟩
    · intro h0 hd K hK
      have z : u4 = false := h0
      have z11_ : u11 = false := by
        cases hu : u11 with
        | false => rfl
        | true => exact nomatch z.symm.trans ((kF hu).2.2.2.2.1)
      have zd : u3 = true := by
        simp [Region.binds] at hd
        simp [hd]
      have H_kS := hide kS
      have H_b2 := hide b2
      have H_b7 := hide b7
      have H_q0 := hide q0
      have H_q5 := hide q5
      have H_kZ := hide kZ
      have H_c2 := hide c2
      have H_c3 := hide c3
      have H_c4 := hide c4
      have H_c7 := hide c7
      have H_c8 := hide c8
      have H_c9 := hide c9
      have H_c10 := hide c10
      have H_kF := hide kF
      clear kS b2 b7 q0 q5 kZ c2 c3 c4 c7 c8 c9 c10 kF
      obtain ⟨rfl⟩ := zd
      subst z11_
      subst z
      clear h0 hd
      rw [if_pos (by rfl)]
      have hb := unhide H_b2 (unhide H_c3 rfl).2
      have cc := (unhide H_q0 (unhide H_c3 rfl).1).1.cell (gtk_some (show rN < 3 by omega))
      go_simp
      exact unhide hK _ _ ⟨u0, u1, u2, true, true, u5, u6, u7, u8, u9, u10, false, p, q, rN, sN, rfl, rfl, unhide H_kS, unhide H_b2, unhide H_b7, unhide H_q0, unhide H_q5, (fun h => nomatch h), unhide H_c2, unhide H_c3, (fun _ => rfl), unhide H_c7, unhide H_c8, unhide H_c9, (fun h => ⟨rfl, (unhide H_c10 h).2⟩), (fun h => nomatch h)⟩
    · intro h0 hd K hK
      have z : u5 = false := h0
      have z11_ : u11 = false := by
        cases hu : u11 with
        | false => rfl
        | true => exact nomatch z.symm.trans ((kF hu).2.2.2.2.2.1)
      have z8_ : u8 = false := by
        cases hu : u8 with
        | false => rfl
        | true => exact nomatch z.symm.trans ((c8 hu).1)
      have H_kS := hide kS
      have H_b2 := hide b2
      have H_b7 := hide b7
      have H_q0 := hide q0
      have H_q5 := hide q5
      have H_kZ := hide kZ
      have H_c2 := hide c2
      have H_c3 := hide c3
      have H_c4 := hide c4
      have H_c7 := hide c7
      have H_c8 := hide c8
      have H_c9 := hide c9
      have H_c10 := hide c10
      have H_kF := hide kF
      clear kS b2 b7 q0 q5 kZ c2 c3 c4 c7 c8 c9 c10 kF
      subst z11_
      subst z8_
      subst z
      clear h0 hd
      rw [if_pos (by rfl)]
      go_simp
      exact unhide hK _ _ ⟨u0, u1, u2, u3, u4, true, u6, u7, false, u9, u10, false, p, W.heap.size, rN, sN, rfl, rfl, (fun _ => (unhide H_kS rfl).alloc _), unhide H_b2, unhide H_b7, (fun h => ⟨(Below.heap_alloc _ _ _ (unhide H_q0 h).1.lt).trans (unhide H_q0 h).1, (unhide H_q0 h).2⟩), (fun _ => ⟨heap_alloc_new W _, by have := (unhide H_kS rfl).so.lt; omega, by have := (unhide H_kS rfl).lt; omega⟩), (fun h => nomatch h), unhide H_c2, unhide H_c3, unhide H_c4, unhide H_c7, (fun h => nomatch h), unhide H_c9, unhide H_c10, (fun h => nomatch h)⟩
    · intro h0 hd K hK
      have z : u6 = false := h0
      have z11_ : u11 = false := by
        cases hu : u11 with
        | false => rfl
        | true => exact nomatch z.symm.trans ((kF hu).2.2.2.2.2.2.1)
      have H_kS := hide kS
      have H_b2 := hide b2
      have H_b7 := hide b7
      have H_q0 := hide q0
      have H_q5 := hide q5
      have H_kZ := hide kZ
      have H_c2 := hide c2
      have H_c3 := hide c3
      have H_c4 := hide c4
      have H_c7 := hide c7
      have H_c8 := hide c8
      have H_c9 := hide c9
      have H_c10 := hide c10
      have H_kF := hide kF
      clear kS b2 b7 q0 q5 kZ c2 c3 c4 c7 c8 c9 c10 kF
      subst z11_
      subst z
      clear h0 hd
      rw [if_pos (by rfl)]
      go_simp
      exact unhide hK _ _ ⟨u0, u1, u2, u3, u4, u5, true, u7, u8, u9, u10, false, p, q, rN, sN, rfl, rfl, unhide H_kS, unhide H_b2, unhide H_b7, unhide H_q0, unhide H_q5, (fun h => nomatch h), unhide H_c2, unhide H_c3, unhide H_c4, (fun h => ⟨rfl, (unhide H_c7 h).2⟩), unhide H_c8, unhide H_c9, unhide H_c10, (fun h => nomatch h)⟩
    · intro h0 hd K hK
      have z : u7 = false := h0
      have z11_ : u11 = false := by
        cases hu : u11 with
        | false => rfl
        | true => exact nomatch z.symm.trans ((kF hu).2.2.2.2.2.2.2.1)
      have z8_ : u8 = false := by
        cases hu : u8 with
        | false => rfl
        | true => exact nomatch z.symm.trans ((c8 hu).2)
      have z9_ : u9 = false := by
        cases hu : u9 with
        | false => rfl
        | true => exact nomatch z.symm.trans ((c8 (c9 hu)).2)
      have z10_ : u10 = false := by
        cases hu : u10 with
        | false => rfl
        | true => exact nomatch z.symm.trans ((c8 (c9 (c10 hu).2)).2)
      have zd : u6 = true ∧ u2 = true := by
        simp [Region.binds] at hd
        simp [hd]
      have H_kS := hide kS
      have H_b2 := hide b2
      have H_b7 := hide b7
      have H_q0 := hide q0
      have H_q5 := hide q5
      have H_kZ := hide kZ
      have H_c2 := hide c2
      have H_c3 := hide c3
      have H_c4 := hide c4
      have H_c7 := hide c7
      have H_c8 := hide c8
      have H_c9 := hide c9
      have H_c10 := hide c10
      have H_kF := hide kF
      clear kS b2 b7 q0 q5 kZ c2 c3 c4 c7 c8 c9 c10 kF
      obtain ⟨rfl, rfl⟩ := zd
      subst z11_
      subst z8_
      subst z9_
      subst z10_
      subst z
      clear h0 hd
      rw [if_pos (by rfl)]
      have HSS : Ps B g T (k + 3) w 0 0 W := by have := unhide H_kS rfl; simpa using this
      go_simp
      refine (next_any (k := (k + 3)) 3 HSS.so (by omega) (by omega) (by omega)).mono ?_
      rintro e w8 ⟨r, rfl, hr1, hr2, hs, mv⟩
      obtain ⟨nN, rfl⟩ := Int.eq_ofNat_of_zero_le hr1
      exact unhide hK _ _ ⟨u0, u1, true, u3, u4, u5, true, true, false, false, false, false, p, q, rN, nN, rfl, rfl, (fun _ => by have := HSS.step hs mv; simp; exact this.up (by omega)), unhide H_b2, (fun _ => hr2), (fun h => ⟨(mv.block _ (unhide H_q0 h).1.lt (unhide H_q0 h).2.1).trans (unhide H_q0 h).1, (unhide H_q0 h).2⟩), (fun h => ⟨(mv.block _ (unhide H_q5 h).1.lt (unhide H_q5 h).2.1).trans (unhide H_q5 h).1, (unhide H_q5 h).2⟩), (fun h => nomatch h), unhide H_c2, (fun h => ⟨(unhide H_c3 h).1, rfl⟩), unhide H_c4, (fun _ => ⟨rfl, rfl⟩), (fun h => nomatch h), (fun h => nomatch h), (fun h => nomatch h), (fun h => nomatch h)⟩
    · intro h0 hd K hK
      have z : u8 = false := h0
      have z11_ : u11 = false := by
        cases hu : u11 with
        | false => rfl
        | true => exact nomatch z.symm.trans ((kF hu).2.2.2.2.2.2.2.2.1)
      have zd : u5 = true ∧ u7 = true := by
        simp [Region.binds] at hd
        simp [hd]
      have H_kS := hide kS
      have H_b2 := hide b2
      have H_b7 := hide b7
      have H_q0 := hide q0
      have H_q5 := hide q5
      have H_kZ := hide kZ
      have H_c2 := hide c2
      have H_c3 := hide c3
      have H_c4 := hide c4
      have H_c7 := hide c7
      have H_c8 := hide c8
      have H_c9 := hide c9
      have H_c10 := hide c10
      have H_kF := hide kF
      clear kS b2 b7 q0 q5 kZ c2 c3 c4 c7 c8 c9 c10 kF
      obtain ⟨rfl, rfl⟩ := zd
      subst z11_
      subst z
      clear h0 hd
      rw [if_pos (by rfl)]
      have hb := unhide H_b7 rfl
      have o4 : sN < 3 := by omega
      have o5 : (0 : Int) ≤ (sN : Int) := by omega
      go_simp
      exact unhide hK _ _ ⟨u0, u1, u2, u3, u4, true, u6, true, true, u9, u10, false, p, q, rN, sN, rfl, rfl, unhide H_kS, unhide H_b2, unhide H_b7, unhide H_q0, unhide H_q5, (fun h => nomatch h), unhide H_c2, unhide H_c3, unhide H_c4, unhide H_c7, (fun _ => ⟨rfl, rfl⟩), (fun h => rfl), unhide H_c10, (fun h => nomatch h)⟩
    · intro h0 hd K hK
      have z : u9 = false := h0
      have z11_ : u11 = false := by
        cases hu : u11 with
        | false => rfl
        | true => exact nomatch z.symm.trans ((kF hu).2.2.2.2.2.2.2.2.2.1)
      have zd : u8 = true := by
        simp [Region.binds] at hd
        simp [hd]
      have H_kS := hide kS
      have H_b2 := hide b2
      have H_b7 := hide b7
      have H_q0 := hide q0
      have H_q5 := hide q5
      have H_kZ := hide kZ
      have H_c2 := hide c2
      have H_c3 := hide c3
      have H_c4 := hide c4
      have H_c7 := hide c7
      have H_c8 := hide c8
      have H_c9 := hide c9
      have H_c10 := hide c10
      have H_kF := hide kF
      clear kS b2 b7 q0 q5 kZ c2 c3 c4 c7 c8 c9 c10 kF
      obtain ⟨rfl⟩ := zd
      subst z11_
      subst z
      clear h0 hd
      rw [if_pos (by rfl)]
      have hb := unhide H_b7 (unhide H_c8 rfl).2
      have cc := (unhide H_q5 (unhide H_c8 rfl).1).1.cell (gtk_some (show sN < 3 by omega))
      go_simp
      exact unhide hK _ _ ⟨u0, u1, u2, u3, u4, u5, u6, u7, true, true, u10, false, p, q, rN, sN, rfl, rfl, unhide H_kS, unhide H_b2, unhide H_b7, unhide H_q0, unhide H_q5, (fun h => nomatch h), unhide H_c2, unhide H_c3, unhide H_c4, unhide H_c7, unhide H_c8, (fun _ => rfl), (fun h => ⟨(unhide H_c10 h).1, rfl⟩), (fun h => nomatch h)⟩
    · intro h0 hd K hK
      have z : u10 = false := h0
      have z11_ : u11 = false := by
        cases hu : u11 with
        | false => rfl
        | true => exact nomatch z.symm.trans ((kF hu).2.2.2.2.2.2.2.2.2.2)
      have zd : u4 = true ∧ u9 = true := by
        simp [Region.binds] at hd
        simp [hd]
      have H_kS := hide kS
      have H_b2 := hide b2
      have H_b7 := hide b7
      have H_q0 := hide q0
      have H_q5 := hide q5
      have H_kZ := hide kZ
      have H_c2 := hide c2
      have H_c3 := hide c3
      have H_c4 := hide c4
      have H_c7 := hide c7
      have H_c8 := hide c8
      have H_c9 := hide c9
      have H_c10 := hide c10
      have H_kF := hide kF
      clear kS b2 b7 q0 q5 kZ c2 c3 c4 c7 c8 c9 c10 kF
      obtain ⟨rfl, rfl⟩ := zd
      subst z11_
      subst z
      clear h0 hd
      rw [if_pos (by rfl)]
      go_simp
      exact unhide hK _ _ ⟨u0, u1, u2, u3, true, u5, u6, u7, u8, true, true, false, p, q, rN, sN, rfl, rfl, unhide H_kS, unhide H_b2, unhide H_b7, unhide H_q0, unhide H_q5, (fun h => nomatch h), unhide H_c2, unhide H_c3, unhide H_c4, unhide H_c7, unhide H_c8, unhide H_c9, (fun _ => ⟨rfl, rfl⟩), (fun h => nomatch h)⟩
    · intro h0 hd K hK
      have z : u11 = false := h0
      have zd : u10 = true ∧ u0 = true ∧ u1 = true ∧ u2 = true ∧ u3 = true ∧ u4 = true ∧ u5 = true ∧ u6 = true ∧ u7 = true ∧ u8 = true ∧ u9 = true := by
        simp [Region.binds] at hd
        simp [hd]
      have H_kS := hide kS
      have H_b2 := hide b2
      have H_b7 := hide b7
      have H_q0 := hide q0
      have H_q5 := hide q5
      have H_kZ := hide kZ
      have H_c2 := hide c2
      have H_c3 := hide c3
      have H_c4 := hide c4
      have H_c7 := hide c7
      have H_c8 := hide c8
      have H_c9 := hide c9
      have H_c10 := hide c10
      have H_kF := hide kF
      clear kS b2 b7 q0 q5 kZ c2 c3 c4 c7 c8 c9 c10 kF
      obtain ⟨rfl, rfl, rfl, rfl, rfl, rfl, rfl, rfl, rfl, rfl, rfl⟩ := zd
      subst z
      clear h0 hd
      rw [if_pos (by rfl)]
      have cb := (unhide H_kS rfl).tb
      have cc0 := pair_c0 cb
      have cc1 := pair_c1 cb
      have cf0 := pair_f cb 0
      have cf1 := pair_f cb 1
      have clt := cell_lt cc0
      clear cb
      go_simp
      exact unhide hK _ _ ⟨true, true, true, true, true, true, true, true, true, true, true, true, p, q, rN, sN, rfl, rfl, (fun h => nomatch h), unhide H_b2, unhide H_b7, (fun h => ⟨((Below.heap_setCell _ _ _ _ (unhide H_q0 h).2.2).trans (Below.heap_setCell _ _ _ _ (unhide H_q0 h).2.2)).trans (unhide H_q0 h).1, (unhide H_q0 h).2⟩), (fun h => ⟨((Below.heap_setCell _ _ _ _ (unhide H_q5 h).2.2).trans (Below.heap_setCell _ _ _ _ (unhide H_q5 h).2.2)).trans (unhide H_q5 h).1, (unhide H_q5 h).2⟩), (fun _ => (by have := unhide H_kS rfl; simp at this; exact this : Ps B g T (k + 3 + 3) w 0 0 W).put _ _ (by omega)), (fun _ => rfl), (fun _ => ⟨rfl, rfl⟩), (fun _ => rfl), (fun _ => ⟨rfl, rfl⟩), (fun _ => ⟨rfl, rfl⟩), (fun _ => rfl), (fun _ => ⟨rfl, rfl⟩), (fun _ => ⟨rfl, rfl, rfl, rfl, rfl, rfl, rfl, rfl, rfl, rfl, rfl⟩)⟩
  case hend =>
    rintro Lb A W ⟨u0, u1, u2, u3, u4, u5, u6, u7, u8, u9, u10, u11, p, q, rN, sN, rfl, rfl, kS, b2, b7, q0, q5, kZ, c2, c3, c4, c7, c8, c9, c10, kF⟩ hL
    have hl : u0 = true ∧ u1 = true ∧ u2 = true ∧ u3 = true ∧ u4 = true ∧ u5 = true ∧ u6 = true ∧ u7 = true ∧ u8 = true ∧ u9 = true ∧ u10 = true ∧ u11 = true := by
      have h2 := congrArg Array.toList hL
      simpa [List.replicate] using h2
    obtain ⟨rfl, rfl, rfl, rfl, rfl, rfl, rfl, rfl, rfl, rfl, rfl, rfl⟩ := hl
    have h1 := b2 rfl
    have h2 := b7 rfl
    exact unhide HQ _ _ _ _ _ _ _ _ _ _ _ _ _ _ (three_ok rN (by omega)) (three_ok2 sN (by omega)) (kZ rfl)

set_option maxHeartbeats 4000000 in
set_option maxRecDepth 100000 in
theorem point_any {B g : Nat} {k : Int} {w : World} (h : So B g k w) (hk : k ≤ 800000000) :
    Calls Try.prog 26 #[.pointer (some ⟨g, 0, none⟩)] w fun e w' => ∃ X Y : Int, e = .returned (.agg #[.int .i64 X, .int .i64 Y]) ∧ ptOk (X, Y) = true ∧ So B g (k + 9) w' ∧ Mv g w w' := by
  have hg := h.lt
  have H0 : Hid (Ps B g w.heap.size k w 0 0 (w.alloc (.cells #[.int .i64 0, .int .i64 0] 26))) := hide ⟨h.alloc _, (Mv.refl g w).alloc _, heap_alloc_new w _, Nat.le_refl _, hg⟩
  clear h
  go_enter Try.func26, Try.ntmps26
  go_wp2_with fail
  refine (next_any (k := k) 9 (unhide H0).so (by omega) (by omega) (by omega)).mono ?_
  rintro e W1 ⟨r, rfl, r0, r1, hs, mv⟩
  have H1 := hide ((unhide H0).step hs mv)
  clear hs mv H0
  have fin : ∀ (X Y : Int) (W : World), -100000 ≤ X ∧ X ≤ 100000 → -100000 ≤ Y ∧ Y ≤ 100000 → Ps B g w.heap.size (k + 9) w X Y W → ptOk (X, Y) = true ∧ So B g (k + 9) W ∧ Mv g w W := fun X Y W hX hY hp => ⟨decide_eq_true ⟨hX.1, hX.2, hY.1, hY.2⟩, hp.so, hp.mv⟩
  have hr : r = 0 ∨ r = 1 ∨ 2 ≤ r := by omega
  rcases hr with rfl | rfl | hr
  · go_wp2_with fail
    refine (next_any (k := k + 3) 200001 (unhide H1).so (by omega) (by omega) (by omega)).mono ?_
    rintro e W2 ⟨rx, rfl, x0, x1, hs, mv⟩
    have H2 := hide ((unhide H1).step hs mv)
    clear hs mv H1
    have wx : IntKind.i64.wrap (rx - 100000) = rx - 100000 := wrap_i (by omega) (by omega)
    go_wp2_with fail
    refine (next_any (k := k + 3 + 3) 200001 (unhide H2).so (by omega) (by omega) (by omega)).mono ?_
    rintro e W3 ⟨ry, rfl, y0, y1, hs, mv⟩
    have H3 := hide ((unhide H2).step hs mv)
    clear hs mv H2
    have wy : IntKind.i64.wrap (ry - 100000) = ry - 100000 := wrap_i (by omega) (by omega)
    have c0 := pair_c0 (unhide H3).tb
    have c1 := pair_c1 (unhide H3).tb
    have f0 := pair_f (unhide H3).tb 0
    have f1 := pair_f (unhide H3).tb 1
    have lt3 := (unhide H3).lt
    have H4 := hide ((unhide H3).put (rx - 100000) (ry - 100000) (k' := k + 9) (by omega))
    go_wp2_with fail
    have F := fin _ _ _ (by omega) (by omega) (unhide H4)
    exact bodyPost_ret (v := .agg #[.int .i64 (rx - 100000), .int .i64 (ry - 100000)]) (by simp [results, Try.results26, go_sem, c0, c1, lt3]) rfl ⟨_, _, rfl, F.1, F.2.1, F.2.2⟩
  · go_wp2_with fail
    refine Go.Code.wp_mono (Only.to (fun _ _ h => h)) (pt5 (k := k + 3) (w := w) (B := B) (by omega) H1 (fun y16 y17 y18 y19 y20 y21 y22 y23 y24 y25 y26 X Y W' hX hY hp => ?_))
    have c0 := pair_c0 hp.tb
    have c1 := pair_c1 hp.tb
    have lt3 := hp.lt
    have F := hide (fin X Y W' hX hY (hp.up (by omega)))
    clear hp
    go_wp2_with fail
    exact bodyPost_ret (v := .agg #[.int .i64 X, .int .i64 Y]) (by simp [results, Try.results26, go_sem, c0, c1, lt3]) rfl ⟨_, _, rfl, (unhide F).1, (unhide F).2.1, (unhide F).2.2⟩
  · have d0 : (r == 0) = false := by rw [beq_eq_false_iff_ne]; omega
    have d1 : (r == 1) = false := by rw [beq_eq_false_iff_ne]; omega
    go_wp2_with fail
    refine (next_any (k := k + 3) 13 (unhide H1).so (by omega) (by omega) (by omega)).mono ?_
    rintro e W2 ⟨rx, rfl, x0, x1, hs, mv⟩
    have H2 := hide ((unhide H1).step hs mv)
    clear hs mv H1
    have wx : IntKind.i64.wrap (rx - 6) = rx - 6 := wrap_i (by omega) (by omega)
    go_wp2_with fail
    refine (next_any (k := k + 3 + 3) 13 (unhide H2).so (by omega) (by omega) (by omega)).mono ?_
    rintro e W3 ⟨ry, rfl, y0, y1, hs, mv⟩
    have H3 := hide ((unhide H2).step hs mv)
    clear hs mv H2
    have wy : IntKind.i64.wrap (ry - 6) = ry - 6 := wrap_i (by omega) (by omega)
    have c0 := pair_c0 (unhide H3).tb
    have c1 := pair_c1 (unhide H3).tb
    have f0 := pair_f (unhide H3).tb 0
    have f1 := pair_f (unhide H3).tb 1
    have lt3 := (unhide H3).lt
    have H4 := hide ((unhide H3).put (rx - 6) (ry - 6) (k' := k + 9) (by omega))
    go_wp2_with fail
    have F := fin _ _ _ (by omega) (by omega) (unhide H4)
    exact bodyPost_ret (v := .agg #[.int .i64 (rx - 6), .int .i64 (ry - 6)]) (by simp [results, Try.results26, go_sem, c0, c1, lt3]) rfl ⟨_, _, rfl, F.1, F.2.1, F.2.2⟩
end Go.Proofs.Ytdneepojgklciaa
