/-
  Statements of the program's Bent that draw their order, each walked alone.
-/
import Derived.Test.YtimkinpbimangaaBnMath
import Derived.Test.YtimkinpbimangaaInv2
import Derived.Test.YtimkinpbimangaaVb
namespace Go.Proofs.Ytimkinpbimangaa
open Go.ChangeShapes Go.WideShapes Go.ChangeAt Go.RowKit
set_option linter.unusedVariables false
set_option linter.unusedSimpArgs false

noncomputable def rg36 (id : Nat) : Go.Code := match Try.f36.body with | some c => (regOfZ id c).getD .skip | none => .skip
noncomputable def rg37 (id : Nat) : Go.Code := match Try.f37.body with | some c => (regOfZ id c).getD .skip | none => .skip
set_option maxHeartbeats 4000000 in
set_option maxRecDepth 100000 in
theorem co7 {s0 s2 s3 s4 s5 s7 s9 s10 s11 s12 s13 s14 s15 s16 s17 s18 s19 s20 s21 s22 s23 s24 s25 s26 s27 s28 s29 s30 s31 s32 s33 s34 s35 s36 s37 s38 s39 s40 s41 s42 s43 s44 s45 s46 : Value} {qb qo m cv g i j : Nat} {v0 v1 x a0 a1 : Int} {V : World} {K_ : Act → World → Prop} 
    (HS0 : Hid (V.cell? ⟨g, 0, none⟩ = some (.int .i64 (v0)))) (HS1 : Hid (V.cell? ⟨g, 1, none⟩ = some (.int .i64 (v1)))) (HC : Hid (V.cell? ⟨qb, qo + j, none⟩ = some (.int .i64 (x)))) (hbO : g < V.heap.size) {oo0 : Value} (HO0 : Hid (V.cell? ⟨g, 0, none⟩ = some oo0)) {oo1 : Value} (HO1 : Hid (V.cell? ⟨g, 1, none⟩ = some oo1)) (HOf : Hid (∀ o, V.frozen? ⟨g, o, none⟩ = false))
    (HW3 : Hid (IntKind.i64.wrap ((i : Int) - 1) = (j : Int)))
    (HX4 : Hid (j < m))
    (HF6 : Hid (∀ Xw, Below V.heap.size V Xw → Calls Try.prog 58 #[.agg #[.int .i64 (v0), .int .i64 (v1)], .int .i64 (x)] Xw fun e w' => e = .returned (.agg #[.int .i64 (a0), .int .i64 (a1)]) ∧ Below Xw.heap.size Xw w'))
    (hQ : ∀  (W1 W9 : World), W9 = ((W1.setCell ⟨g, 0, none⟩ (.int .i64 (a0))).setCell ⟨g, 1, none⟩ (.int .i64 (a1))) → Below V.heap.size V W1 → K_ { tmps := #[s0, .slice (some ⟨qb, qo, none⟩) m cv, s2, s3, s4, s5, .pointer (some ⟨g, 0, none⟩), s7, .int .i64 (i : Int), s9, s10, s11, s12, s13, s14, s15, s16, s17, s18, s19, s20, s21, s22, .agg #[.int .i64 (v0), .int .i64 (v1)], .slice (some ⟨qb, qo, none⟩) m cv, .int .i64 (i : Int), .int .i64 (j : Int), .pointer (some ⟨qb, qo + j, none⟩), .int .i64 (x), .agg #[.int .i64 (a0), .int .i64 (a1)], s30, s31, s32, s33, s34, s35, s36, s37, s38, s39, s40, s41, s42, s43, s44, s45, s46], defers := [] } W9) :
    Go.Code.wp Try.prog (rg36 7) (Only K_) { tmps := #[s0, .slice (some ⟨qb, qo, none⟩) m cv, s2, s3, s4, s5, .pointer (some ⟨g, 0, none⟩), s7, .int .i64 (i : Int), s9, s10, s11, s12, s13, s14, s15, s16, s17, s18, s19, s20, s21, s22, s23, s24, s25, s26, s27, s28, s29, s30, s31, s32, s33, s34, s35, s36, s37, s38, s39, s40, s41, s42, s43, s44, s45, s46], defers := [] } V := by
  have HQ := hide hQ
  clear hQ
  conv => arg 2; whnf
  refine wp_region_inv2 (fun Lb A W => ∃ (u0 u1 u2 u3 u4 u5 u6 u7 : Bool) (dm : Nat), Lb = #[u0, u1, u2, u3, u4, u5, u6, u7] ∧ A = ({ tmps := #[s0, .slice (some ⟨qb, qo, none⟩) m cv, s2, s3, s4, s5, .pointer (some ⟨g, 0, none⟩), s7, .int .i64 (i : Int), s9, s10, s11, s12, s13, s14, s15, s16, s17, s18, s19, s20, s21, s22, (bif u0 then .agg #[.int .i64 (v0), .int .i64 (v1)] else s23), (bif u1 then .slice (some ⟨qb, qo, none⟩) m cv else s24), (bif u2 then .int .i64 (i : Int) else s25), (bif u3 then .int .i64 (j : Int) else s26), (bif u4 then .pointer (some ⟨qb, qo + j, none⟩) else s27), (bif u5 then .int .i64 (x) else s28), (bif u6 then .agg #[.int .i64 (a0), .int .i64 (a1)] else s29), s30, s31, s32, s33, s34, s35, s36, s37, s38, s39, s40, s41, s42, s43, s44, s45, s46], defers := [] } : Act) ∧ (u7 = false → Below V.heap.size V W) ∧ (u7 = true → ∃ W1, Below V.heap.size V W1 ∧ W = ((W1.setCell ⟨g, 0, none⟩ (.int .i64 (a0))).setCell ⟨g, 1, none⟩ (.int .i64 (a1)))) ∧ (u7 = true → u0 = true ∧ u1 = true ∧ u2 = true ∧ u3 = true ∧ u4 = true ∧ u5 = true ∧ u6 = true)) (by kernel_rfl) (by kernel_rfl) ?h0 ?hstep ?hend
  case h0 =>
    exact ⟨false, false, false, false, false, false, false, false, 0, rfl, rfl, (fun _ => Below.drew (Below.refl _ _)), zf, zf⟩
  case hstep =>
    intro Lb A W hI
    obtain ⟨u0, u1, u2, u3, u4, hI⟩ := hI
    obtain ⟨u5, u6, u7, dm, hI⟩ := hI
    obtain ⟨hLb, hI⟩ := hI
    obtain ⟨hA, hI⟩ := hI
    obtain ⟨kB, hI⟩ := hI
    obtain ⟨kZ, hI⟩ := hI
    have kF := hI
    clear hI
    subst hLb
    subst hA
    replace kB := hide kB
    replace kZ := hide kZ
    replace kF := hide kF
    refine ⟨?_, ?_, ?_, ?_, ?_, ?_, ?_, ?_, trivial⟩
    · intro h0 hd K hK
      have z : u0 = false := h0
      have z7_ : u7 = false := znb fun hu => z.symm.trans ((zu kF hu).1)
      subst z7_
      subst z
      clear h0 hd
      rw [if_pos (by rfl)]
      have c0 := keep1 (zu kB rfl) (unhide HS0)
      have c1 := keep1 (zu kB rfl) (unhide HS1)
      go_simp
      exact unhide hK _ _ ⟨true, u1, u2, u3, u4, u5, u6, false, dm, rfl, rfl, zu kB, zf, zf⟩
    · intro h0 hd K hK
      have z : u1 = false := h0
      have z7_ : u7 = false := znb fun hu => z.symm.trans ((zu kF hu).2.1)
      subst z7_
      subst z
      clear h0 hd
      rw [if_pos (by rfl)]
      go_simp
      exact unhide hK _ _ ⟨u0, true, u2, u3, u4, u5, u6, false, dm, rfl, rfl, zu kB, zf, zf⟩
    · intro h0 hd K hK
      have z : u2 = false := h0
      have z7_ : u7 = false := znb fun hu => z.symm.trans ((zu kF hu).2.2.1)
      subst z7_
      subst z
      clear h0 hd
      rw [if_pos (by rfl)]
      go_simp
      exact unhide hK _ _ ⟨u0, u1, true, u3, u4, u5, u6, false, dm, rfl, rfl, zu kB, zf, zf⟩
    · intro h0 hd K hK
      have z : u3 = false := h0
      have z7_ : u7 = false := znb fun hu => z.symm.trans ((zu kF hu).2.2.2.1)
      have zd : u2 = true := by
        simp [Region.binds] at hd
        simp [hd]
      obtain ⟨rfl⟩ := zd
      subst z7_
      subst z
      clear h0 hd
      rw [if_pos (by rfl)]
      have wq := unhide HW3
      go_simp
      exact unhide hK _ _ ⟨u0, u1, true, true, u4, u5, u6, false, dm, rfl, rfl, zu kB, zf, zf⟩
    · intro h0 hd K hK
      have z : u4 = false := h0
      have z7_ : u7 = false := znb fun hu => z.symm.trans ((zu kF hu).2.2.2.2.1)
      have zd : u1 = true ∧ u3 = true := by
        simp [Region.binds] at hd
        simp [hd]
      obtain ⟨rfl, rfl⟩ := zd
      subst z7_
      subst z
      clear h0 hd
      rw [if_pos (by rfl)]
      have q1 : j < m := unhide HX4
      have q2 : (j : Int) < (m : Int) := by omega
      go_simp
      exact unhide hK _ _ ⟨u0, true, u2, true, true, u5, u6, false, dm, rfl, rfl, zu kB, zf, zf⟩
    · intro h0 hd K hK
      have z : u5 = false := h0
      have z7_ : u7 = false := znb fun hu => z.symm.trans ((zu kF hu).2.2.2.2.2.1)
      have zd : u4 = true := by
        simp [Region.binds] at hd
        simp [hd]
      obtain ⟨rfl⟩ := zd
      subst z7_
      subst z
      clear h0 hd
      rw [if_pos (by rfl)]
      have c0 := keep1 (zu kB rfl) (unhide HC)
      go_simp
      exact unhide hK _ _ ⟨u0, u1, u2, u3, true, true, u6, false, dm, rfl, rfl, zu kB, zf, zf⟩
    · intro h0 hd K hK
      have z : u6 = false := h0
      have z7_ : u7 = false := znb fun hu => z.symm.trans ((zu kF hu).2.2.2.2.2.2)
      have zd : u0 = true ∧ u5 = true := by
        simp [Region.binds] at hd
        simp [hd]
      obtain ⟨rfl, rfl⟩ := zd
      subst z7_
      subst z
      clear h0 hd
      rw [if_pos (by rfl)]
      go_simp
      refine (unhide HF6 W (zu kB rfl)).mono ?_
      rintro e w8 ⟨rfl, hb8⟩
      exact unhide hK _ _ ⟨true, u1, u2, u3, u4, true, true, false, dm, rfl, rfl, (fun _ => bc (zu kB rfl) hb8), zf, zf⟩
    · intro h0 hd K hK
      have z : u7 = false := h0
      have zd0 : u0 = true ∧ u1 = true ∧ u2 = true ∧ u3 = true ∧ u4 = true ∧ u5 = true ∧ u6 = true := by
        simp [Region.binds] at hd
        simp [hd]
      have zd : u0 = true ∧ u1 = true ∧ u2 = true ∧ u3 = true ∧ u4 = true ∧ u5 = true ∧ u6 = true := ⟨zd0.1, zd0.2.1, zd0.2.2.1, zd0.2.2.2.1, zd0.2.2.2.2.1, zd0.2.2.2.2.2.1, zd0.2.2.2.2.2.2⟩
      obtain ⟨rfl, rfl, rfl, rfl, rfl, rfl, rfl⟩ := zd
      subst z
      clear h0 hd
      rw [if_pos (by rfl)]
      have hB := (zu kB rfl)
      have q0 := keep1 hB (unhide HO0)
      have q1 := keep1 hB (unhide HO1)
      have fz : ∀ o, W.frozen? ⟨g, o, none⟩ = false := fun o => keepz hB hbO (unhide HOf o)
      have HBB := hide hB
      clear hB
      go_simp
      exact unhide hK _ _ ⟨true, true, true, true, true, true, true, true, dm, rfl, rfl, zt, (fun _ => ⟨W, unhide HBB, rfl⟩), (fun _ => ⟨rfl, rfl, rfl, rfl, rfl, rfl, rfl⟩)⟩
  case hend =>
    intro Lb A W hI
    obtain ⟨u0, u1, u2, u3, u4, hI⟩ := hI
    obtain ⟨u5, u6, u7, dm, hI⟩ := hI
    obtain ⟨hLb, hI⟩ := hI
    obtain ⟨hA, hI⟩ := hI
    obtain ⟨kB, hI⟩ := hI
    obtain ⟨kZ, hI⟩ := hI
    have kF := hI
    clear hI
    subst hLb
    subst hA
    intro hL
    have hl : u0 = true ∧ u1 = true ∧ u2 = true ∧ u3 = true ∧ u4 = true ∧ u5 = true ∧ u6 = true ∧ u7 = true := by
      have h2 := congrArg Array.toList hL
      simpa [List.replicate] using h2
    obtain ⟨rfl, rfl, rfl, rfl, rfl, rfl, rfl, rfl⟩ := hl
    obtain ⟨W1, hA, hZ⟩ := kZ rfl
    exact unhide HQ   W1 W hZ hA

set_option maxHeartbeats 4000000 in
set_option maxRecDepth 100000 in
theorem me5 {s1 s2 s3 s5 s6 s7 s8 s9 s10 s11 s12 s13 s14 s15 s16 s17 s18 s19 s20 s21 s22 s23 s24 s25 s26 s27 s28 s29 s30 s31 s32 s33 s34 s35 s36 s37 s38 s39 s40 s41 s42 s43 s44 s45 : Value} {b n cap i j : Nat} {x0 y0 x1 y1 : Int} {V : World} {K_ : Act → World → Prop} 
    (HA0 : Hid (V.cell? ⟨b, i * 2, none⟩ = some (.int .i64 (x0)))) (HA1 : Hid (V.cell? ⟨b, i * 2 + 1, none⟩ = some (.int .i64 (y0)))) (HB0 : Hid (V.cell? ⟨b, j * 2, none⟩ = some (.int .i64 (x1)))) (HB1 : Hid (V.cell? ⟨b, j * 2 + 1, none⟩ = some (.int .i64 (y1)))) 
    (HX2 : Hid (i < n))
    (HW6 : Hid (IntKind.i64.wrap ((i : Int) + 1) = (j : Int)))
    (HX7 : Hid (j < n))
    (hQ : ∀ (n10 : Nat)  (W1 : World), Below V.heap.size V W1 → vb W1 n10 84 [.int .i64 (x0), .int .i64 (y0), .int .i64 (x1), .int .i64 (y1)] → V.heap.size ≤ n10 → K_ { tmps := #[.slice (some ⟨b, 0, none⟩) n cap, s1, s2, s3, .int .i64 (i : Int), .pointer (some ⟨n10, 0, none⟩), s6, s7, s8, s9, s10, s11, s12, s13, .slice (some ⟨b, 0, none⟩) n cap, .int .i64 (i : Int), .pointer (some ⟨b, i * 2, none⟩), .agg #[.int .i64 (x0), .int .i64 (y0)], .slice (some ⟨b, 0, none⟩) n cap, .int .i64 (i : Int), .int .i64 (j : Int), .pointer (some ⟨b, j * 2, none⟩), .agg #[.int .i64 (x1), .int .i64 (y1)], .agg #[.int .i64 (x0), .int .i64 (y0), .int .i64 (x1), .int .i64 (y1)], s24, s25, s26, s27, s28, s29, s30, s31, s32, s33, s34, s35, s36, s37, s38, s39, s40, s41, s42, s43, s44, s45], defers := [] } W1) :
    Go.Code.wp Try.prog (rg37 5) (Only K_) { tmps := #[.slice (some ⟨b, 0, none⟩) n cap, s1, s2, s3, .int .i64 (i : Int), s5, s6, s7, s8, s9, s10, s11, s12, s13, s14, s15, s16, s17, s18, s19, s20, s21, s22, s23, s24, s25, s26, s27, s28, s29, s30, s31, s32, s33, s34, s35, s36, s37, s38, s39, s40, s41, s42, s43, s44, s45], defers := [] } V := by
  have HQ := hide hQ
  clear hQ
  conv => arg 2; whnf
  refine wp_region_inv2 (fun Lb A W => ∃ (u0 u1 u2 u3 u4 u5 u6 u7 u8 u9 u10 u11 : Bool) (n10 : Nat), Lb = #[u0, u1, u2, u3, u4, u5, u6, u7, u8, u9, u10, u11] ∧ A = ({ tmps := #[.slice (some ⟨b, 0, none⟩) n cap, s1, s2, s3, .int .i64 (i : Int), (bif u10 then .pointer (some ⟨n10, 0, none⟩) else s5), s6, s7, s8, s9, s10, s11, s12, s13, (bif u0 then .slice (some ⟨b, 0, none⟩) n cap else s14), (bif u1 then .int .i64 (i : Int) else s15), (bif u2 then .pointer (some ⟨b, i * 2, none⟩) else s16), (bif u3 then .agg #[.int .i64 (x0), .int .i64 (y0)] else s17), (bif u4 then .slice (some ⟨b, 0, none⟩) n cap else s18), (bif u5 then .int .i64 (i : Int) else s19), (bif u6 then .int .i64 (j : Int) else s20), (bif u7 then .pointer (some ⟨b, j * 2, none⟩) else s21), (bif u8 then .agg #[.int .i64 (x1), .int .i64 (y1)] else s22), (bif u9 then .agg #[.int .i64 (x0), .int .i64 (y0), .int .i64 (x1), .int .i64 (y1)] else s23), s24, s25, s26, s27, s28, s29, s30, s31, s32, s33, s34, s35, s36, s37, s38, s39, s40, s41, s42, s43, s44, s45], defers := [] } : Act) ∧ Below V.heap.size V W ∧ (u10 = true → vb W n10 84 (bif u11 then [.int .i64 (x0), .int .i64 (y0), .int .i64 (x1), .int .i64 (y1)] else [.int .i64 (0), .int .i64 (0), .int .i64 (0), .int .i64 (0)]) ∧ V.heap.size ≤ n10) ∧ (u11 = true → u0 = true ∧ u1 = true ∧ u2 = true ∧ u3 = true ∧ u4 = true ∧ u5 = true ∧ u6 = true ∧ u7 = true ∧ u8 = true ∧ u9 = true ∧ u10 = true)) (by kernel_rfl) (by kernel_rfl) ?h0 ?hstep ?hend
  case h0 =>
    exact ⟨false, false, false, false, false, false, false, false, false, false, false, false, 0, rfl, rfl, Below.drew (Below.refl _ _), zf, zf⟩
  case hstep =>
    intro Lb A W hI
    obtain ⟨u0, u1, u2, u3, u4, hI⟩ := hI
    obtain ⟨u5, u6, u7, u8, u9, hI⟩ := hI
    obtain ⟨u10, u11, n10, hI⟩ := hI
    obtain ⟨hLb, hI⟩ := hI
    obtain ⟨hA, hI⟩ := hI
    obtain ⟨kB, hI⟩ := hI
    obtain ⟨k10, hI⟩ := hI
    have kF := hI
    clear hI
    subst hLb
    subst hA
    replace kB := hide kB
    replace k10 := hide k10
    replace kF := hide kF
    refine ⟨?_, ?_, ?_, ?_, ?_, ?_, ?_, ?_, ?_, ?_, ?_, ?_, trivial⟩
    · intro h0 hd K hK
      have z : u0 = false := h0
      have z11_ : u11 = false := znb fun hu => z.symm.trans ((zu kF hu).1)
      subst z11_
      subst z
      clear h0 hd
      rw [if_pos (by rfl)]
      go_simp
      exact unhide hK _ _ ⟨true, u1, u2, u3, u4, u5, u6, u7, u8, u9, u10, false, n10, rfl, rfl, zu kB, zu k10, zf⟩
    · intro h0 hd K hK
      have z : u1 = false := h0
      have z11_ : u11 = false := znb fun hu => z.symm.trans ((zu kF hu).2.1)
      subst z11_
      subst z
      clear h0 hd
      rw [if_pos (by rfl)]
      go_simp
      exact unhide hK _ _ ⟨u0, true, u2, u3, u4, u5, u6, u7, u8, u9, u10, false, n10, rfl, rfl, zu kB, zu k10, zf⟩
    · intro h0 hd K hK
      have z : u2 = false := h0
      have z11_ : u11 = false := znb fun hu => z.symm.trans ((zu kF hu).2.2.1)
      have zd : u0 = true ∧ u1 = true := by
        simp [Region.binds] at hd
        simp [hd]
      obtain ⟨rfl, rfl⟩ := zd
      subst z11_
      subst z
      clear h0 hd
      rw [if_pos (by rfl)]
      have q1 : i < n := unhide HX2
      have q2 : (i : Int) < (n : Int) := by omega
      go_simp
      exact unhide hK _ _ ⟨true, true, true, u3, u4, u5, u6, u7, u8, u9, u10, false, n10, rfl, rfl, zu kB, zu k10, zf⟩
    · intro h0 hd K hK
      have z : u3 = false := h0
      have z11_ : u11 = false := znb fun hu => z.symm.trans ((zu kF hu).2.2.2.1)
      have zd : u2 = true := by
        simp [Region.binds] at hd
        simp [hd]
      obtain ⟨rfl⟩ := zd
      subst z11_
      subst z
      clear h0 hd
      rw [if_pos (by rfl)]
      have c0 := keep1 (zu kB) (unhide HA0)
      have c1 := keep1 (zu kB) (unhide HA1)
      go_simp
      exact unhide hK _ _ ⟨u0, u1, true, true, u4, u5, u6, u7, u8, u9, u10, false, n10, rfl, rfl, zu kB, zu k10, zf⟩
    · intro h0 hd K hK
      have z : u4 = false := h0
      have z11_ : u11 = false := znb fun hu => z.symm.trans ((zu kF hu).2.2.2.2.1)
      subst z11_
      subst z
      clear h0 hd
      rw [if_pos (by rfl)]
      go_simp
      exact unhide hK _ _ ⟨u0, u1, u2, u3, true, u5, u6, u7, u8, u9, u10, false, n10, rfl, rfl, zu kB, zu k10, zf⟩
    · intro h0 hd K hK
      have z : u5 = false := h0
      have z11_ : u11 = false := znb fun hu => z.symm.trans ((zu kF hu).2.2.2.2.2.1)
      subst z11_
      subst z
      clear h0 hd
      rw [if_pos (by rfl)]
      go_simp
      exact unhide hK _ _ ⟨u0, u1, u2, u3, u4, true, u6, u7, u8, u9, u10, false, n10, rfl, rfl, zu kB, zu k10, zf⟩
    · intro h0 hd K hK
      have z : u6 = false := h0
      have z11_ : u11 = false := znb fun hu => z.symm.trans ((zu kF hu).2.2.2.2.2.2.1)
      have zd : u5 = true := by
        simp [Region.binds] at hd
        simp [hd]
      obtain ⟨rfl⟩ := zd
      subst z11_
      subst z
      clear h0 hd
      rw [if_pos (by rfl)]
      have wq := unhide HW6
      go_simp
      exact unhide hK _ _ ⟨u0, u1, u2, u3, u4, true, true, u7, u8, u9, u10, false, n10, rfl, rfl, zu kB, zu k10, zf⟩
    · intro h0 hd K hK
      have z : u7 = false := h0
      have z11_ : u11 = false := znb fun hu => z.symm.trans ((zu kF hu).2.2.2.2.2.2.2.1)
      have zd : u4 = true ∧ u6 = true := by
        simp [Region.binds] at hd
        simp [hd]
      obtain ⟨rfl, rfl⟩ := zd
      subst z11_
      subst z
      clear h0 hd
      rw [if_pos (by rfl)]
      have q1 : j < n := unhide HX7
      have q2 : (j : Int) < (n : Int) := by omega
      go_simp
      exact unhide hK _ _ ⟨u0, u1, u2, u3, true, u5, true, true, u8, u9, u10, false, n10, rfl, rfl, zu kB, zu k10, zf⟩
    · intro h0 hd K hK
      have z : u8 = false := h0
      have z11_ : u11 = false := znb fun hu => z.symm.trans ((zu kF hu).2.2.2.2.2.2.2.2.1)
      have zd : u7 = true := by
        simp [Region.binds] at hd
        simp [hd]
      obtain ⟨rfl⟩ := zd
      subst z11_
      subst z
      clear h0 hd
      rw [if_pos (by rfl)]
      have c0 := keep1 (zu kB) (unhide HB0)
      have c1 := keep1 (zu kB) (unhide HB1)
      go_simp
      exact unhide hK _ _ ⟨u0, u1, u2, u3, u4, u5, u6, true, true, u9, u10, false, n10, rfl, rfl, zu kB, zu k10, zf⟩
    · intro h0 hd K hK
      have z : u9 = false := h0
      have z11_ : u11 = false := znb fun hu => z.symm.trans ((zu kF hu).2.2.2.2.2.2.2.2.2.1)
      have zd : u3 = true ∧ u8 = true := by
        simp [Region.binds] at hd
        simp [hd]
      obtain ⟨rfl, rfl⟩ := zd
      subst z11_
      subst z
      clear h0 hd
      rw [if_pos (by rfl)]
      go_simp
      exact unhide hK _ _ ⟨u0, u1, u2, true, u4, u5, u6, u7, true, true, u10, false, n10, rfl, rfl, zu kB, zu k10, zf⟩
    · intro h0 hd K hK
      have z : u10 = false := h0
      have z11_ : u11 = false := znb fun hu => z.symm.trans ((zu kF hu).2.2.2.2.2.2.2.2.2.2)
      subst z11_
      subst z
      clear h0 hd
      rw [if_pos (by rfl)]
      go_simp
      exact unhide hK _ _ ⟨u0, u1, u2, u3, u4, u5, u6, u7, u8, u9, true, false, W.heap.size, rfl, rfl, ba (zu kB) _, (fun _ => ⟨vb_new W 84 _ _ rfl, (zu kB).size⟩), zf⟩
    · intro h0 hd K hK
      have z : u11 = false := h0
      have zd0 : u0 = true ∧ u1 = true ∧ u2 = true ∧ u3 = true ∧ u4 = true ∧ u5 = true ∧ u6 = true ∧ u7 = true ∧ u8 = true ∧ u9 = true ∧ u10 = true := by
        simp [Region.binds] at hd
        simp [hd]
      have zd : u0 = true ∧ u1 = true ∧ u2 = true ∧ u3 = true ∧ u4 = true ∧ u5 = true ∧ u6 = true ∧ u7 = true ∧ u8 = true ∧ u9 = true ∧ u10 = true := ⟨zd0.1, zd0.2.1, zd0.2.2.1, zd0.2.2.2.1, zd0.2.2.2.2.1, zd0.2.2.2.2.2.1, zd0.2.2.2.2.2.2.1, zd0.2.2.2.2.2.2.2.1, zd0.2.2.2.2.2.2.2.2.1, zd0.2.2.2.2.2.2.2.2.2.1, zd0.2.2.2.2.2.2.2.2.2.2⟩
      obtain ⟨rfl, rfl, rfl, rfl, rfl, rfl, rfl, rfl, rfl, rfl, rfl⟩ := zd
      subst z
      clear h0 hd
      rw [if_pos (by rfl)]
      have v1 := (zu k10 rfl).1
      have g9 := (zu k10 rfl).2
      have fz := v1.frozen
      have q0 := v1.cell (m := 0) rfl
      have q1 := v1.cell (m := 1) rfl
      have q2 := v1.cell (m := 2) rfl
      have q3 := v1.cell (m := 3) rfl
      have HV1 := hide v1
      clear v1
      go_simp
      exact unhide hK _ _ ⟨true, true, true, true, true, true, true, true, true, true, true, true, n10, rfl, rfl, (((((((((zu kB)).setCell (p := ⟨n10, 0, none⟩) g9 _)).setCell (p := ⟨n10, 1, none⟩) g9 _)).setCell (p := ⟨n10, 2, none⟩) g9 _)).setCell (p := ⟨n10, 3, none⟩) g9 _), (fun _ => ⟨(((((unhide HV1).set 0 _).set 1 _).set 2 _).set 3 _), g9⟩), (fun _ => ⟨rfl, rfl, rfl, rfl, rfl, rfl, rfl, rfl, rfl, rfl, rfl⟩)⟩
  case hend =>
    intro Lb A W hI
    obtain ⟨u0, u1, u2, u3, u4, hI⟩ := hI
    obtain ⟨u5, u6, u7, u8, u9, hI⟩ := hI
    obtain ⟨u10, u11, n10, hI⟩ := hI
    obtain ⟨hLb, hI⟩ := hI
    obtain ⟨hA, hI⟩ := hI
    obtain ⟨kB, hI⟩ := hI
    obtain ⟨k10, hI⟩ := hI
    have kF := hI
    clear hI
    subst hLb
    subst hA
    intro hL
    have hl : u0 = true ∧ u1 = true ∧ u2 = true ∧ u3 = true ∧ u4 = true ∧ u5 = true ∧ u6 = true ∧ u7 = true ∧ u8 = true ∧ u9 = true ∧ u10 = true ∧ u11 = true := by
      have h2 := congrArg Array.toList hL
      simpa [List.replicate] using h2
    obtain ⟨rfl, rfl, rfl, rfl, rfl, rfl, rfl, rfl, rfl, rfl, rfl, rfl⟩ := hl
    exact unhide HQ n10  W kB (k10 rfl).1 (k10 rfl).2

end Go.Proofs.Ytimkinpbimangaa
