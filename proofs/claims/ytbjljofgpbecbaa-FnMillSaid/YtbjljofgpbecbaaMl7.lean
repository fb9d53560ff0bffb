/-
  One statement of the model's milling, walked alone: a milling begins.
-/
import Derived.Test.YtbjljofgpbecbaaCpy
import Derived.Test.YtbjljofgpbecbaaMilMath
import Derived.Test.YtbjljofgpbecbaaPrsM
import Derived.Test.YtbjljofgpbecbaaInv
import Derived.Test.YtbjljofgpbecbaaTak
namespace Go.Proofs.Ytbjljofgpbecbaa
open Go.ChangeShapes Go.WideShapes Go.ChangeAt Go.RowKit
set_option linter.unusedVariables false
set_option linter.unusedSimpArgs false

noncomputable def reg12 (id : Nat) : Go.Code := match Try.f12.body with | some c => (regOf id c).getD .skip | none => .skip
set_option maxHeartbeats 4000000 in
set_option maxRecDepth 100000 in
theorem ml7 {s0 s1 s3 s6 s7 s8 s9 s10 s11 s12 s13 s14 s15 s16 s17 s18 s19 s20 s21 s22 s23 s24 s25 s26 s27 s28 s29 s30 s31 s32 s33 s34 s35 s36 s37 s38 s39 s40 s41 s42 s43 s44 s45 s46 s47 s48 s49 s50 s51 s52 s53 s54 s55 s56 s57 s58 s59 s60 s61 s62 s63 s64 s65 s66 s67 s68 s69 s70 : Value} {Wd Hd r gs pos cs g po c n w0 w1 : Nat} {S : List Int} {V : World} {K_ : Act → World → Prop}
    (HS : Hid (vb V w0 25 [.int .i64 (Wd : Int), .int .i64 (Hd : Int), .slice (some ⟨gs, pos, none⟩) n cs])) (HP : Hid (vb V w1 25 [.int .i64 (Wd : Int), .int .i64 (Hd : Int), .slice (some ⟨g, po, none⟩) n c]))
    (HC : Hid (∀ X, Below V.heap.size V X → Calls Try.prog 45 #[.agg #[.int .i64 (Wd : Int), .int .i64 (Hd : Int), .slice (some ⟨gs, pos, none⟩) n cs]] X fun e w' => (∃ q cap, e = .returned (.agg #[.int .i64 (Wd : Int), .int .i64 (Hd : Int), .slice (some ⟨q, 0, none⟩) n cap]) ∧ Row w' X.heap.size 3 1 (.slice (some ⟨q, 0, none⟩) n cap) n S) ∧ Below X.heap.size X w'))
    (hQ : ∀ (y27 y28 y29 y30 y31 y32 : Value) (q cap M : Nat) (W' : World), Below V.heap.size V W' → Row W' V.heap.size 3 1 (.slice (some ⟨q, 0, none⟩) n cap) n S → V.heap.size ≤ M → q ≠ M → vb W' M 76 (rnV (Wd : Int) (Hd : Int) g po n c (r : Int) false 0 0 24 q cap ⟨S, 0, 0, 0⟩) → K_ { tmps := #[s0, s1, .int .i64 ((r : Int)), s3, .pointer (some ⟨w0, 0, none⟩), .pointer (some ⟨w1, 0, none⟩), s6, s7, s8, .pointer (some ⟨M, 0, none⟩), s10, s11, s12, s13, s14, s15, s16, s17, s18, s19, s20, s21, s22, s23, s24, s25, s26, y27, y28, y29, y30, y31, y32, s33, s34, s35, s36, s37, s38, s39, s40, s41, s42, s43, s44, s45, s46, s47, s48, s49, s50, s51, s52, s53, s54, s55, s56, s57, s58, s59, s60, s61, s62, s63, s64, s65, s66, s67, s68, s69, s70], defers := [] } W') :
    Go.Code.wp Try.prog (reg12 7) (Only K_) { tmps := #[s0, s1, .int .i64 ((r : Int)), s3, .pointer (some ⟨w0, 0, none⟩), .pointer (some ⟨w1, 0, none⟩), s6, s7, s8, s9, s10, s11, s12, s13, s14, s15, s16, s17, s18, s19, s20, s21, s22, s23, s24, s25, s26, s27, s28, s29, s30, s31, s32, s33, s34, s35, s36, s37, s38, s39, s40, s41, s42, s43, s44, s45, s46, s47, s48, s49, s50, s51, s52, s53, s54, s55, s56, s57, s58, s59, s60, s61, s62, s63, s64, s65, s66, s67, s68, s69, s70], defers := [] } V := by
  have HQ := hide hQ
  clear hQ
  conv => arg 2; whnf
  refine wp_region_inv (fun Lb A W => ∃ (u0 u1 u2 u3 u4 u5 u6 u7 : Bool) (q : Nat) (cap : Nat) (M : Nat), Lb = #[u0, u1, u2, u3, u4, u5, u6, u7] ∧ A = ({ tmps := #[s0, s1, .int .i64 ((r : Int)), s3, .pointer (some ⟨w0, 0, none⟩), .pointer (some ⟨w1, 0, none⟩), s6, s7, s8, (bif u6 then .pointer (some ⟨M, 0, none⟩) else s9), s10, s11, s12, s13, s14, s15, s16, s17, s18, s19, s20, s21, s22, s23, s24, s25, s26, (bif u0 then .agg #[.int .i64 (Wd : Int), .int .i64 (Hd : Int), .slice (some ⟨g, po, none⟩) n c] else s27), (bif u1 then .int .i64 ((r : Int)) else s28), (bif u2 then .agg #[.bool false, .int .i64 0, .int .i64 0, .int .i64 24] else s29), (bif u3 then .agg #[.int .i64 (Wd : Int), .int .i64 (Hd : Int), .slice (some ⟨gs, pos, none⟩) n cs] else s30), (bif u4 then .agg #[.int .i64 (Wd : Int), .int .i64 (Hd : Int), .slice (some ⟨q, 0, none⟩) n cap] else s31), (bif u5 then .agg #[.int .i64 (Wd : Int), .int .i64 (Hd : Int), .slice (some ⟨g, po, none⟩) n c, .int .i64 (r : Int), .bool false, .int .i64 0, .int .i64 0, .int .i64 24, .int .i64 (Wd : Int), .int .i64 (Hd : Int), .slice (some ⟨q, 0, none⟩) n cap, .int .i64 0, .int .i64 0, .int .i64 0] else s32), s33, s34, s35, s36, s37, s38, s39, s40, s41, s42, s43, s44, s45, s46, s47, s48, s49, s50, s51, s52, s53, s54, s55, s56, s57, s58, s59, s60, s61, s62, s63, s64, s65, s66, s67, s68, s69, s70], defers := [] } : Act) ∧ Below V.heap.size V W ∧ (u4 = true → Row W V.heap.size 3 1 (.slice (some ⟨q, 0, none⟩) n cap) n S) ∧ (u6 = true → V.heap.size ≤ M ∧ (u7 = false → vb W M 76 [.int .i64 0, .int .i64 0, .slice none 0 0, .int .i64 0, .bool false, .int .i64 0, .int .i64 0, .int .i64 0, .int .i64 0, .int .i64 0, .slice none 0 0, .int .i64 0, .int .i64 0, .int .i64 0])) ∧ (u4 = true → u6 = true → q ≠ M) ∧ (u7 = true → vb W M 76 (rnV (Wd : Int) (Hd : Int) g po n c (r : Int) false 0 0 24 q cap ⟨S, 0, 0, 0⟩)) ∧ (u4 = true → u3 = true) ∧ (u5 = true → u0 = true ∧ u1 = true ∧ u2 = true ∧ u4 = true) ∧ (u7 = true → u0 = true ∧ u1 = true ∧ u2 = true ∧ u3 = true ∧ u4 = true ∧ u5 = true ∧ u6 = true)) (by kernel_rfl) (by kernel_rfl) ?h0 ?hstep ?hend
  case h0 =>
    exact ⟨false, false, false, false, false, false, false, false, 0, 0, 0, rfl, rfl, Below.drew (Below.refl _ _), (fun h => nomatch h), (fun h => nomatch h), (fun h => nomatch h), (fun h => nomatch h), (fun h => nomatch h), (fun h => nomatch h), (fun h => nomatch h)⟩
  case hstep =>
    rintro Lb A W ⟨u0, u1, u2, u3, u4, u5, u6, u7, q, cap, M, rfl, rfl, kB, kq, kM, kN, kZ, c4, c5, kF⟩
    refine ⟨?_, ?_, ?_, ?_, ?_, ?_, ?_, ?_, trivial⟩
    · intro h0 hd K hK
      have z : u0 = false := h0
      have z7_ : u7 = false := by
        cases hu : u7 with
        | false => rfl
        | true => exact nomatch z.symm.trans ((kF hu).1)
      have H_kB := hide kB
      have H_kq := hide kq
      have H_kM := hide kM
      have H_kN := hide kN
      have H_kZ := hide kZ
      have H_c4 := hide c4
      have H_c5 := hide c5
      have H_kF := hide kF
      clear kB kq kM kN kZ c4 c5 kF
      subst z7_
      subst z
      clear h0 hd
      rw [if_pos (by rfl)]
      have v1 := (unhide HP).bel (unhide H_kB)
      have c0 := v1.cell (m := 0) rfl
      have c1 := v1.cell (m := 1) rfl
      have c2 := v1.cell (m := 2) rfl
      clear v1
      go_simp
      exact unhide hK _ _ ⟨true, u1, u2, u3, u4, u5, u6, false, q, cap, M, rfl, rfl, unhide H_kB, unhide H_kq, unhide H_kM, unhide H_kN, (fun h => nomatch h), unhide H_c4, (fun h => ⟨rfl, (unhide H_c5 h).2.1, (unhide H_c5 h).2.2.1, (unhide H_c5 h).2.2.2⟩), (fun h => nomatch h)⟩
    · intro h0 hd K hK
      have z : u1 = false := h0
      have z7_ : u7 = false := by
        cases hu : u7 with
        | false => rfl
        | true => exact nomatch z.symm.trans ((kF hu).2.1)
      have H_kB := hide kB
      have H_kq := hide kq
      have H_kM := hide kM
      have H_kN := hide kN
      have H_kZ := hide kZ
      have H_c4 := hide c4
      have H_c5 := hide c5
      have H_kF := hide kF
      clear kB kq kM kN kZ c4 c5 kF
      subst z7_
      subst z
      clear h0 hd
      rw [if_pos (by rfl)]
      go_simp
      exact unhide hK _ _ ⟨u0, true, u2, u3, u4, u5, u6, false, q, cap, M, rfl, rfl, unhide H_kB, unhide H_kq, unhide H_kM, unhide H_kN, (fun h => nomatch h), unhide H_c4, (fun h => ⟨(unhide H_c5 h).1, rfl, (unhide H_c5 h).2.2.1, (unhide H_c5 h).2.2.2⟩), (fun h => nomatch h)⟩
    · intro h0 hd K hK
      have z : u2 = false := h0
      have z7_ : u7 = false := by
        cases hu : u7 with
        | false => rfl
        | true => exact nomatch z.symm.trans ((kF hu).2.2.1)
      have H_kB := hide kB
      have H_kq := hide kq
      have H_kM := hide kM
      have H_kN := hide kN
      have H_kZ := hide kZ
      have H_c4 := hide c4
      have H_c5 := hide c5
      have H_kF := hide kF
      clear kB kq kM kN kZ c4 c5 kF
      subst z7_
      subst z
      clear h0 hd
      rw [if_pos (by rfl)]
      go_simp
      exact unhide hK _ _ ⟨u0, u1, true, u3, u4, u5, u6, false, q, cap, M, rfl, rfl, unhide H_kB, unhide H_kq, unhide H_kM, unhide H_kN, (fun h => nomatch h), unhide H_c4, (fun h => ⟨(unhide H_c5 h).1, (unhide H_c5 h).2.1, rfl, (unhide H_c5 h).2.2.2⟩), (fun h => nomatch h)⟩
    · intro h0 hd K hK
      have z : u3 = false := h0
      have z7_ : u7 = false := by
        cases hu : u7 with
        | false => rfl
        | true => exact nomatch z.symm.trans ((kF hu).2.2.2.1)
      have H_kB := hide kB
      have H_kq := hide kq
      have H_kM := hide kM
      have H_kN := hide kN
      have H_kZ := hide kZ
      have H_c4 := hide c4
      have H_c5 := hide c5
      have H_kF := hide kF
      clear kB kq kM kN kZ c4 c5 kF
      subst z7_
      subst z
      clear h0 hd
      rw [if_pos (by rfl)]
      have v1 := (unhide HS).bel (unhide H_kB)
      have c0 := v1.cell (m := 0) rfl
      have c1 := v1.cell (m := 1) rfl
      have c2 := v1.cell (m := 2) rfl
      clear v1
      go_simp
      exact unhide hK _ _ ⟨u0, u1, u2, true, u4, u5, u6, false, q, cap, M, rfl, rfl, unhide H_kB, unhide H_kq, unhide H_kM, unhide H_kN, (fun h => nomatch h), (fun h => rfl), unhide H_c5, (fun h => nomatch h)⟩
    · intro h0 hd K hK
      have z : u4 = false := h0
      have z7_ : u7 = false := by
        cases hu : u7 with
        | false => rfl
        | true => exact nomatch z.symm.trans ((kF hu).2.2.2.2.1)
      have z5_ : u5 = false := by
        cases hu : u5 with
        | false => rfl
        | true => exact nomatch z.symm.trans ((c5 hu).2.2.2)
      have zd : u3 = true := by
        simp [Region.binds] at hd
        simp [hd]
      have H_kB := hide kB
      have H_kq := hide kq
      have H_kM := hide kM
      have H_kN := hide kN
      have H_kZ := hide kZ
      have H_c4 := hide c4
      have H_c5 := hide c5
      have H_kF := hide kF
      clear kB kq kM kN kZ c4 c5 kF
      obtain ⟨rfl⟩ := zd
      subst z7_
      subst z5_
      subst z
      clear h0 hd
      rw [if_pos (by rfl)]
      go_simp
      refine (unhide HC W (unhide H_kB)).mono ?_
      rintro e w8 ⟨⟨q', cap', rfl, hro⟩, hb8⟩
      exact unhide hK _ _ ⟨u0, u1, u2, true, true, false, u6, false, q', cap', M, rfl, rfl, (bc (unhide H_kB) hb8), (fun _ => hro.mono (unhide H_kB).size), (fun h => ⟨(unhide H_kM h).1, fun h2 => ((unhide H_kM h).2 h2).bel hb8⟩), (fun _ h => by have h1 := ((unhide H_kM h).2 rfl).lt; have h2 := hro.ge; omega), (fun h => nomatch h), (fun _ => rfl), (fun h => nomatch h), (fun h => nomatch h)⟩
    · intro h0 hd K hK
      have z : u5 = false := h0
      have z7_ : u7 = false := by
        cases hu : u7 with
        | false => rfl
        | true => exact nomatch z.symm.trans ((kF hu).2.2.2.2.2.1)
      have zd : u0 = true ∧ u1 = true ∧ u2 = true ∧ u4 = true := by
        simp [Region.binds] at hd
        simp [hd]
      have H_kB := hide kB
      have H_kq := hide kq
      have H_kM := hide kM
      have H_kN := hide kN
      have H_kZ := hide kZ
      have H_c4 := hide c4
      have H_c5 := hide c5
      have H_kF := hide kF
      clear kB kq kM kN kZ c4 c5 kF
      obtain ⟨rfl, rfl, rfl, rfl⟩ := zd
      subst z7_
      subst z
      clear h0 hd
      rw [if_pos (by rfl)]
      go_simp
      exact unhide hK _ _ ⟨true, true, true, u3, true, true, u6, false, q, cap, M, rfl, rfl, unhide H_kB, unhide H_kq, unhide H_kM, unhide H_kN, (fun h => nomatch h), unhide H_c4, (fun _ => ⟨rfl, rfl, rfl, rfl⟩), (fun h => nomatch h)⟩
    · intro h0 hd K hK
      have z : u6 = false := h0
      have z7_ : u7 = false := by
        cases hu : u7 with
        | false => rfl
        | true => exact nomatch z.symm.trans ((kF hu).2.2.2.2.2.2)
      have H_kB := hide kB
      have H_kq := hide kq
      have H_kM := hide kM
      have H_kN := hide kN
      have H_kZ := hide kZ
      have H_c4 := hide c4
      have H_c5 := hide c5
      have H_kF := hide kF
      clear kB kq kM kN kZ c4 c5 kF
      subst z7_
      subst z
      clear h0 hd
      rw [if_pos (by rfl)]
      go_simp
      exact unhide hK _ _ ⟨u0, u1, u2, u3, u4, u5, true, false, q, cap, W.heap.size, rfl, rfl, (ba (unhide H_kB) _), (fun h => (unhide H_kq h).below (ba (Below.refl _ _) _)), (fun _ => ⟨(unhide H_kB).size, fun _ => vb_new W 76 [.int .i64 0, .int .i64 0, .slice none 0 0, .int .i64 0, .bool false, .int .i64 0, .int .i64 0, .int .i64 0, .int .i64 0, .int .i64 0, .slice none 0 0, .int .i64 0, .int .i64 0, .int .i64 0] _ rfl⟩), (fun h _ => by have := (World.ownsRow.lt (unhide H_kq h) q rfl).2; omega), (fun h => nomatch h), unhide H_c4, unhide H_c5, (fun h => nomatch h)⟩
    · intro h0 hd K hK
      have z : u7 = false := h0
      have zd : u5 = true ∧ u6 = true ∧ u0 = true ∧ u1 = true ∧ u2 = true ∧ u3 = true ∧ u4 = true := by
        simp [Region.binds] at hd
        simp [hd]
      have H_kB := hide kB
      have H_kq := hide kq
      have H_kM := hide kM
      have H_kN := hide kN
      have H_kZ := hide kZ
      have H_c4 := hide c4
      have H_c5 := hide c5
      have H_kF := hide kF
      clear kB kq kM kN kZ c4 c5 kF
      obtain ⟨rfl, rfl, rfl, rfl, rfl, rfl, rfl⟩ := zd
      subst z
      clear h0 hd
      rw [if_pos (by rfl)]
      have hq := unhide H_kN rfl rfl
      have vz := (unhide H_kM rfl).2 rfl
      have fz := vz.frozen
      have c0 := vz.cell (m := 0) rfl
      have c1 := vz.cell (m := 1) rfl
      have c2 := vz.cell (m := 2) rfl
      have c3 := vz.cell (m := 3) rfl
      have c4 := vz.cell (m := 4) rfl
      have c5 := vz.cell (m := 5) rfl
      have c6 := vz.cell (m := 6) rfl
      have c7 := vz.cell (m := 7) rfl
      have c8 := vz.cell (m := 8) rfl
      have c9 := vz.cell (m := 9) rfl
      have c10 := vz.cell (m := 10) rfl
      have c11 := vz.cell (m := 11) rfl
      have c12 := vz.cell (m := 12) rfl
      have c13 := vz.cell (m := 13) rfl
      have HVZ := hide vz
      clear vz
      go_simp
      exact unhide hK _ _ ⟨true, true, true, true, true, true, true, true, q, cap, M, rfl, rfl, (Below.setCell (Below.setCell (Below.setCell (Below.setCell (Below.setCell (Below.setCell (Below.setCell (Below.setCell (Below.setCell (Below.setCell (Below.setCell (Below.setCell (Below.setCell (Below.setCell (unhide H_kB) (unhide H_kM rfl).1 _) (unhide H_kM rfl).1 _) (unhide H_kM rfl).1 _) (unhide H_kM rfl).1 _) (unhide H_kM rfl).1 _) (unhide H_kM rfl).1 _) (unhide H_kM rfl).1 _) (unhide H_kM rfl).1 _) (unhide H_kM rfl).1 _) (unhide H_kM rfl).1 _) (unhide H_kM rfl).1 _) (unhide H_kM rfl).1 _) (unhide H_kM rfl).1 _) (unhide H_kM rfl).1 _), (fun _ => (unhide H_kq rfl).kept' (fun y hy => by simp only [Value.ownBlock, Option.some.injEq] at hy; subst hy; exact (Below.heap_setCell _ _ _ _ hq).trans ( (Below.heap_setCell _ _ _ _ hq).trans ( (Below.heap_setCell _ _ _ _ hq).trans ( (Below.heap_setCell _ _ _ _ hq).trans ( (Below.heap_setCell _ _ _ _ hq).trans ( (Below.heap_setCell _ _ _ _ hq).trans ( (Below.heap_setCell _ _ _ _ hq).trans ( (Below.heap_setCell _ _ _ _ hq).trans ( (Below.heap_setCell _ _ _ _ hq).trans ( (Below.heap_setCell _ _ _ _ hq).trans ( (Below.heap_setCell _ _ _ _ hq).trans ( (Below.heap_setCell _ _ _ _ hq).trans ( (Below.heap_setCell _ _ _ _ hq).trans (Below.heap_setCell _ _ _ _ hq))))))))))))))), (fun _ => ⟨(unhide H_kM rfl).1, (fun h => nomatch h)⟩), (fun _ _ => hq), (fun _ => ((((((((((((((unhide HVZ).set 0 _).set 1 _).set 2 _).set 3 _).set 4 _).set 5 _).set 6 _).set 7 _).set 8 _).set 9 _).set 10 _).set 11 _).set 12 _).set 13 _), (fun _ => rfl), (fun _ => ⟨rfl, rfl, rfl, rfl⟩), (fun _ => ⟨rfl, rfl, rfl, rfl, rfl, rfl, rfl⟩)⟩
  case hend =>
    rintro Lb A W ⟨u0, u1, u2, u3, u4, u5, u6, u7, q, cap, M, rfl, rfl, kB, kq, kM, kN, kZ, c4, c5, kF⟩ hL
    have hl : u0 = true ∧ u1 = true ∧ u2 = true ∧ u3 = true ∧ u4 = true ∧ u5 = true ∧ u6 = true ∧ u7 = true := by
      have h2 := congrArg Array.toList hL
      simpa [List.replicate] using h2
    obtain ⟨rfl, rfl, rfl, rfl, rfl, rfl, rfl, rfl⟩ := hl
    exact unhide HQ _ _ _ _ _ _ q cap M W kB (kq rfl) (kM rfl).1 (kN rfl rfl) (kZ rfl)

end Go.Proofs.Ytbjljofgpbecbaa
