/-
  A statement of the model's FlatLength that draws its order, walked alone.
-/
import Derived.Test.YtimkinpbimangaaFlMath
import Derived.Test.YtimkinpbimangaaInv2
import Derived.Test.YtimkinpbimangaaVb
namespace Go.Proofs.Ytimkinpbimangaa
open Go.ChangeShapes Go.WideShapes Go.ChangeAt Go.RowKit
set_option linter.unusedVariables false
set_option linter.unusedSimpArgs false

noncomputable def rg16 (id : Nat) : Go.Code := match Try.f16.body with | some c => (regOfZ id c).getD .skip | none => .skip
set_option maxHeartbeats 4000000 in
set_option maxRecDepth 100000 in
theorem fl10 {s1 s2 s3 s4 s5 s6 s7 s8 s9 s11 s13 s14 s15 s16 s17 s18 s19 s20 s21 s22 s23 s24 s25 s26 s27 s28 s29 s30 s31 s32 s33 s34 s35 s36 s37 s38 s39 s40 s41 s42 s43 s44 s45 s46 s47 s48 s49 s50 s51 s52 s53 s54 s55 s56 s57 s58 s59 s60 s61 s62 s63 s64 s65 s66 s67 s68 s69 s70 s71 s72 s73 s74 s75 s76 s77 s78 s79 s80 s81 s82 s83 s84 s85 s86 s87 s88 s89 s90 s91 s92 s93 s94 s95 s96 s97 s98 s99 s100 s101 s102 s103 s104 s105 s106 s107 s108 : Value} {pb po n cu g i : Nat} {f0 f1 x a0 a1 a3 : Int} {V : World} {K_ : Act → World → Prop} 
    (HS0 : Hid (V.cell? ⟨g, 0, none⟩ = some (.int .i64 (f0)))) (HS1 : Hid (V.cell? ⟨g, 1, none⟩ = some (.int .i64 (f1)))) (HC : Hid (V.cell? ⟨pb, po + i, none⟩ = some (.int .i64 (x)))) (hbO : g < V.heap.size) {oo0 : Value} (HO0 : Hid (V.cell? ⟨g, 0, none⟩ = some oo0)) {oo1 : Value} (HO1 : Hid (V.cell? ⟨g, 1, none⟩ = some oo1)) (HOf : Hid (∀ o, V.frozen? ⟨g, o, none⟩ = false))
    (HX3 : Hid (i < n))
    (HF5 : Hid (∀ Xw, Below V.heap.size V Xw → Calls Try.prog 45 #[.int .i64 (x)] Xw fun e w' => e = .returned (.agg #[.int .i64 (x), .int .i64 (1)]) ∧ Below Xw.heap.size Xw w'))
    (HF6 : Hid (∀ Xw, Below V.heap.size V Xw → Calls Try.prog 46 #[.agg #[.int .i64 (f0), .int .i64 (f1)], .agg #[.int .i64 (x), .int .i64 (1)]] Xw fun e w' => e = .returned (.tuple #[.agg #[.int .i64 (a0), .int .i64 (a1)], .int .i64 (a3)]) ∧ Below Xw.heap.size Xw w'))
    (hQ : ∀ (W1 W9 : World), W9 = ((W1.setCell ⟨g, 0, none⟩ (.int .i64 (a0))).setCell ⟨g, 1, none⟩ (.int .i64 (a1))) → Below V.heap.size V W1 → K_ { tmps := #[.slice (some ⟨pb, po, none⟩) n cu, s1, s2, s3, s4, s5, s6, s7, s8, s9, .pointer (some ⟨g, 0, none⟩), .int .i64 (a3), .int .i64 (i : Int), s13, s14, s15, s16, s17, s18, s19, s20, s21, s22, s23, s24, s25, s26, s27, s28, s29, s30, s31, s32, s33, s34, s35, s36, s37, s38, s39, s40, s41, s42, s43, s44, s45, s46, s47, s48, s49, s50, s51, s52, s53, s54, s55, s56, s57, s58, s59, .tuple #[.agg #[.int .i64 (a0), .int .i64 (a1)], .int .i64 (a3)], .agg #[.int .i64 (f0), .int .i64 (f1)], .slice (some ⟨pb, po, none⟩) n cu, .int .i64 (i : Int), .pointer (some ⟨pb, po + i, none⟩), .int .i64 (x), .agg #[.int .i64 (x), .int .i64 (1)], .tuple #[.agg #[.int .i64 (a0), .int .i64 (a1)], .int .i64 (a3)], .agg #[.int .i64 (a0), .int .i64 (a1)], .int .i64 (a3), s70, s71, s72, s73, s74, s75, s76, s77, s78, s79, s80, s81, s82, s83, s84, s85, s86, s87, s88, s89, s90, s91, s92, s93, s94, s95, s96, s97, s98, s99, s100, s101, s102, s103, s104, s105, s106, s107, s108], defers := [] } W9) :
    Go.Code.wp Try.prog (rg16 10) (Only K_) { tmps := #[.slice (some ⟨pb, po, none⟩) n cu, s1, s2, s3, s4, s5, s6, s7, s8, s9, .pointer (some ⟨g, 0, none⟩), s11, .int .i64 (i : Int), s13, s14, s15, s16, s17, s18, s19, s20, s21, s22, s23, s24, s25, s26, s27, s28, s29, s30, s31, s32, s33, s34, s35, s36, s37, s38, s39, s40, s41, s42, s43, s44, s45, s46, s47, s48, s49, s50, s51, s52, s53, s54, s55, s56, s57, s58, s59, s60, s61, s62, s63, s64, s65, s66, s67, s68, s69, s70, s71, s72, s73, s74, s75, s76, s77, s78, s79, s80, s81, s82, s83, s84, s85, s86, s87, s88, s89, s90, s91, s92, s93, s94, s95, s96, s97, s98, s99, s100, s101, s102, s103, s104, s105, s106, s107, s108], defers := [] } V := by
  have HQ := hide hQ
  clear hQ
  conv => arg 2; whnf
  refine wp_region_inv2 (fun Lb A W => ∃ (u0 u1 u2 u3 u4 u5 u6 u7 u8 u9 u10 u11 : Bool) (dm : Nat), Lb = #[u0, u1, u2, u3, u4, u5, u6, u7, u8, u9, u10, u11] ∧ A = ({ tmps := #[.slice (some ⟨pb, po, none⟩) n cu, s1, s2, s3, s4, s5, s6, s7, s8, s9, .pointer (some ⟨g, 0, none⟩), (bif u11 then .int .i64 (a3) else s11), .int .i64 (i : Int), s13, s14, s15, s16, s17, s18, s19, s20, s21, s22, s23, s24, s25, s26, s27, s28, s29, s30, s31, s32, s33, s34, s35, s36, s37, s38, s39, s40, s41, s42, s43, s44, s45, s46, s47, s48, s49, s50, s51, s52, s53, s54, s55, s56, s57, s58, s59, (bif u7 then .tuple #[.agg #[.int .i64 (a0), .int .i64 (a1)], .int .i64 (a3)] else s60), (bif u0 then .agg #[.int .i64 (f0), .int .i64 (f1)] else s61), (bif u1 then .slice (some ⟨pb, po, none⟩) n cu else s62), (bif u2 then .int .i64 (i : Int) else s63), (bif u3 then .pointer (some ⟨pb, po + i, none⟩) else s64), (bif u4 then .int .i64 (x) else s65), (bif u5 then .agg #[.int .i64 (x), .int .i64 (1)] else s66), (bif u6 then .tuple #[.agg #[.int .i64 (a0), .int .i64 (a1)], .int .i64 (a3)] else s67), (bif u8 then .agg #[.int .i64 (a0), .int .i64 (a1)] else s68), (bif u9 then .int .i64 (a3) else s69), s70, s71, s72, s73, s74, s75, s76, s77, s78, s79, s80, s81, s82, s83, s84, s85, s86, s87, s88, s89, s90, s91, s92, s93, s94, s95, s96, s97, s98, s99, s100, s101, s102, s103, s104, s105, s106, s107, s108], defers := [] } : Act) ∧ (u10 = false → Below V.heap.size V W) ∧ (u10 = true → ∃ W1, Below V.heap.size V W1 ∧ W = ((W1.setCell ⟨g, 0, none⟩ (.int .i64 (a0))).setCell ⟨g, 1, none⟩ (.int .i64 (a1)))) ∧ (u3 = true → u1 = true ∧ u2 = true) ∧ (u4 = true → u3 = true) ∧ (u5 = true → u4 = true) ∧ (u6 = true → u0 = true ∧ u5 = true) ∧ (u7 = true → u6 = true) ∧ (u8 = true → u7 = true) ∧ (u10 = true → u8 = true) ∧ (u11 = true → u0 = true ∧ u1 = true ∧ u2 = true ∧ u3 = true ∧ u4 = true ∧ u5 = true ∧ u6 = true ∧ u7 = true ∧ u8 = true ∧ u9 = true ∧ u10 = true)) (by kernel_rfl) (by kernel_rfl) ?h0 ?hstep ?hend
  case h0 =>
    exact ⟨false, false, false, false, false, false, false, false, false, false, false, false, 0, rfl, rfl, (fun _ => Below.drew (Below.refl _ _)), zf, zf, zf, zf, zf, zf, zf, zf, zf⟩
  case hstep =>
    intro Lb A W hI
    obtain ⟨u0, u1, u2, u3, u4, hI⟩ := hI
    obtain ⟨u5, u6, u7, u8, u9, hI⟩ := hI
    obtain ⟨u10, u11, dm, hI⟩ := hI
    obtain ⟨hLb, hI⟩ := hI
    obtain ⟨hA, hI⟩ := hI
    obtain ⟨kB, hI⟩ := hI
    obtain ⟨kZ, hI⟩ := hI
    obtain ⟨l3, hI⟩ := hI
    obtain ⟨l4, hI⟩ := hI
    obtain ⟨l5, hI⟩ := hI
    obtain ⟨l6, hI⟩ := hI
    obtain ⟨l7, hI⟩ := hI
    obtain ⟨l8, hI⟩ := hI
    obtain ⟨l10, hI⟩ := hI
    have kF := hI
    clear hI
    subst hLb
    subst hA
    replace kB := hide kB
    replace kZ := hide kZ
    replace l3 := hide l3
    replace l4 := hide l4
    replace l5 := hide l5
    replace l6 := hide l6
    replace l7 := hide l7
    replace l8 := hide l8
    replace l10 := hide l10
    replace kF := hide kF
    refine ⟨?_, ?_, ?_, ?_, ?_, ?_, ?_, ?_, ?_, ?_, ?_, ?_, trivial⟩
    · intro h0 hd K hK
      have z : u0 = false := h0
      have z11_ : u11 = false := znb fun hu => z.symm.trans ((zu kF hu).1)
      have z10_ : u10 = false := znb fun hu => z.symm.trans ((zu l6 (zu l7 (zu l8 (zu l10 hu)))).1)
      subst z11_
      subst z10_
      subst z
      clear h0 hd
      rw [if_pos (by rfl)]
      have c0 := keep1 (zu kB rfl) (unhide HS0)
      have c1 := keep1 (zu kB rfl) (unhide HS1)
      go_simp
      exact unhide hK _ _ ⟨true, u1, u2, u3, u4, u5, u6, u7, u8, u9, false, false, dm, rfl, rfl, zu kB, zf, zu l3, zu l4, zu l5, (fun h => ⟨rfl, (zu l6 h).2⟩), zu l7, zu l8, zf, zf⟩
    · intro h0 hd K hK
      have z : u1 = false := h0
      have z11_ : u11 = false := znb fun hu => z.symm.trans ((zu kF hu).2.1)
      have z10_ : u10 = false := znb fun hu => z.symm.trans ((zu l3 (zu l4 (zu l5 (zu l6 (zu l7 (zu l8 (zu l10 hu)))).2))).1)
      subst z11_
      subst z10_
      subst z
      clear h0 hd
      rw [if_pos (by rfl)]
      go_simp
      exact unhide hK _ _ ⟨u0, true, u2, u3, u4, u5, u6, u7, u8, u9, false, false, dm, rfl, rfl, zu kB, zf, (fun h => ⟨rfl, (zu l3 h).2⟩), zu l4, zu l5, zu l6, zu l7, zu l8, zf, zf⟩
    · intro h0 hd K hK
      have z : u2 = false := h0
      have z11_ : u11 = false := znb fun hu => z.symm.trans ((zu kF hu).2.2.1)
      have z10_ : u10 = false := znb fun hu => z.symm.trans ((zu l3 (zu l4 (zu l5 (zu l6 (zu l7 (zu l8 (zu l10 hu)))).2))).2)
      subst z11_
      subst z10_
      subst z
      clear h0 hd
      rw [if_pos (by rfl)]
      go_simp
      exact unhide hK _ _ ⟨u0, u1, true, u3, u4, u5, u6, u7, u8, u9, false, false, dm, rfl, rfl, zu kB, zf, (fun h => ⟨(zu l3 h).1, rfl⟩), zu l4, zu l5, zu l6, zu l7, zu l8, zf, zf⟩
    · intro h0 hd K hK
      have z : u3 = false := h0
      have z11_ : u11 = false := znb fun hu => z.symm.trans ((zu kF hu).2.2.2.1)
      have z10_ : u10 = false := znb fun hu => z.symm.trans ((zu l4 (zu l5 (zu l6 (zu l7 (zu l8 (zu l10 hu)))).2)))
      have zd : u1 = true ∧ u2 = true := by
        simp [Region.binds] at hd
        simp [hd]
      obtain ⟨rfl, rfl⟩ := zd
      subst z11_
      subst z10_
      subst z
      clear h0 hd
      rw [if_pos (by rfl)]
      have q1 : i < n := unhide HX3
      have q2 : (i : Int) < (n : Int) := by omega
      go_simp
      exact unhide hK _ _ ⟨u0, true, true, true, u4, u5, u6, u7, u8, u9, false, false, dm, rfl, rfl, zu kB, zf, (fun _ => ⟨rfl, rfl⟩), (fun h => rfl), zu l5, zu l6, zu l7, zu l8, zf, zf⟩
    · intro h0 hd K hK
      have z : u4 = false := h0
      have z11_ : u11 = false := znb fun hu => z.symm.trans ((zu kF hu).2.2.2.2.1)
      have z10_ : u10 = false := znb fun hu => z.symm.trans ((zu l5 (zu l6 (zu l7 (zu l8 (zu l10 hu)))).2))
      have zd : u3 = true := by
        simp [Region.binds] at hd
        simp [hd]
      obtain ⟨rfl⟩ := zd
      subst z11_
      subst z10_
      subst z
      clear h0 hd
      rw [if_pos (by rfl)]
      have c0 := keep1 (zu kB rfl) (unhide HC)
      go_simp
      exact unhide hK _ _ ⟨u0, u1, u2, true, true, u5, u6, u7, u8, u9, false, false, dm, rfl, rfl, zu kB, zf, zu l3, (fun _ => rfl), (fun h => rfl), zu l6, zu l7, zu l8, zf, zf⟩
    · intro h0 hd K hK
      have z : u5 = false := h0
      have z11_ : u11 = false := znb fun hu => z.symm.trans ((zu kF hu).2.2.2.2.2.1)
      have z10_ : u10 = false := znb fun hu => z.symm.trans ((zu l6 (zu l7 (zu l8 (zu l10 hu)))).2)
      have zd : u4 = true := by
        simp [Region.binds] at hd
        simp [hd]
      obtain ⟨rfl⟩ := zd
      subst z11_
      subst z10_
      subst z
      clear h0 hd
      rw [if_pos (by rfl)]
      go_simp
      refine (unhide HF5 W (zu kB rfl)).mono ?_
      rintro e w8 ⟨rfl, hb8⟩
      exact unhide hK _ _ ⟨u0, u1, u2, u3, true, true, u6, u7, u8, u9, false, false, dm, rfl, rfl, (fun _ => bc (zu kB rfl) hb8), zf, zu l3, zu l4, (fun _ => rfl), (fun h => ⟨(zu l6 h).1, rfl⟩), zu l7, zu l8, zf, zf⟩
    · intro h0 hd K hK
      have z : u6 = false := h0
      have z11_ : u11 = false := znb fun hu => z.symm.trans ((zu kF hu).2.2.2.2.2.2.1)
      have z10_ : u10 = false := znb fun hu => z.symm.trans ((zu l7 (zu l8 (zu l10 hu))))
      have zd : u0 = true ∧ u5 = true := by
        simp [Region.binds] at hd
        simp [hd]
      obtain ⟨rfl, rfl⟩ := zd
      subst z11_
      subst z10_
      subst z
      clear h0 hd
      rw [if_pos (by rfl)]
      go_simp
      refine (unhide HF6 W (zu kB rfl)).mono ?_
      rintro e w8 ⟨rfl, hb8⟩
      exact unhide hK _ _ ⟨true, u1, u2, u3, u4, true, true, u7, u8, u9, false, false, dm, rfl, rfl, (fun _ => bc (zu kB rfl) hb8), zf, zu l3, zu l4, zu l5, (fun _ => ⟨rfl, rfl⟩), (fun h => rfl), zu l8, zf, zf⟩
    · intro h0 hd K hK
      have z : u7 = false := h0
      have z11_ : u11 = false := znb fun hu => z.symm.trans ((zu kF hu).2.2.2.2.2.2.2.1)
      have z10_ : u10 = false := znb fun hu => z.symm.trans ((zu l8 (zu l10 hu)))
      have zd : u6 = true := by
        simp [Region.binds] at hd
        simp [hd]
      obtain ⟨rfl⟩ := zd
      subst z11_
      subst z10_
      subst z
      clear h0 hd
      rw [if_pos (by rfl)]
      go_simp
      exact unhide hK _ _ ⟨u0, u1, u2, u3, u4, u5, true, true, u8, u9, false, false, dm, rfl, rfl, zu kB, zf, zu l3, zu l4, zu l5, zu l6, (fun _ => rfl), (fun h => rfl), zf, zf⟩
    · intro h0 hd K hK
      have z : u8 = false := h0
      have z11_ : u11 = false := znb fun hu => z.symm.trans ((zu kF hu).2.2.2.2.2.2.2.2.1)
      have z10_ : u10 = false := znb fun hu => z.symm.trans ((zu l10 hu))
      have zd : u7 = true := by
        simp [Region.binds] at hd
        simp [hd]
      obtain ⟨rfl⟩ := zd
      subst z11_
      subst z10_
      subst z
      clear h0 hd
      rw [if_pos (by rfl)]
      go_simp
      exact unhide hK _ _ ⟨u0, u1, u2, u3, u4, u5, u6, true, true, u9, false, false, dm, rfl, rfl, zu kB, zf, zu l3, zu l4, zu l5, zu l6, zu l7, (fun _ => rfl), zf, zf⟩
    · intro h0 hd K hK
      have z : u9 = false := h0
      have z11_ : u11 = false := znb fun hu => z.symm.trans ((zu kF hu).2.2.2.2.2.2.2.2.2.1)
      have zd : u7 = true := by
        simp [Region.binds] at hd
        simp [hd]
      obtain ⟨rfl⟩ := zd
      subst z11_
      subst z
      clear h0 hd
      rw [if_pos (by rfl)]
      go_simp
      exact unhide hK _ _ ⟨u0, u1, u2, u3, u4, u5, u6, true, u8, true, u10, false, dm, rfl, rfl, zu kB, zu kZ, zu l3, zu l4, zu l5, zu l6, zu l7, (fun h => rfl), zu l10, zf⟩
    · intro h0 hd K hK
      have z : u10 = false := h0
      have z11_ : u11 = false := znb fun hu => z.symm.trans ((zu kF hu).2.2.2.2.2.2.2.2.2.2)
      have zd : u8 = true := by
        simp [Region.binds] at hd
        simp [hd]
      obtain ⟨rfl⟩ := zd
      subst z11_
      subst z
      clear h0 hd
      rw [if_pos (by rfl)]
      have hB := (zu kB rfl)
      have q0 := keep1 hB (unhide HO0)
      have q1 := keep1 hB (unhide HO1)
      have fz : ∀ o, W.frozen? ⟨g, o, none⟩ = false := fun o => keepz hB hbO (unhide HOf o)
      have HBB := hide hB
      clear hB
      go_simp
      exact unhide hK _ _ ⟨u0, u1, u2, u3, u4, u5, u6, u7, true, u9, true, false, dm, rfl, rfl, zt, (fun _ => ⟨W, unhide HBB, rfl⟩), zu l3, zu l4, zu l5, zu l6, zu l7, zu l8, (fun _ => rfl), zf⟩
    · intro h0 hd K hK
      have z : u11 = false := h0
      have zd0 : u0 = true ∧ u1 = true ∧ u2 = true ∧ u3 = true ∧ u4 = true ∧ u5 = true ∧ u6 = true ∧ u7 = true ∧ u8 = true ∧ u9 = true ∧ u10 = true := by
        simp [Region.binds] at hd
        simp [hd]
      have zd : u0 = true ∧ u1 = true ∧ u2 = true ∧ u3 = true ∧ u4 = true ∧ u5 = true ∧ u6 = true ∧ u7 = true ∧ u8 = true ∧ u9 = true ∧ u10 = true := ⟨zd0.1, zd0.2.1, zd0.2.2.1, zd0.2.2.2.1, zd0.2.2.2.2.1, zd0.2.2.2.2.2.1, zd0.2.2.2.2.2.2.1, zd0.2.2.2.2.2.2.2.1, zd0.2.2.2.2.2.2.2.2.1, zd0.2.2.2.2.2.2.2.2.2.1, zd0.2.2.2.2.2.2.2.2.2.2⟩
      obtain ⟨rfl, rfl, rfl, rfl, rfl, rfl, rfl, rfl, rfl, rfl, rfl⟩ := zd
      subst z
      clear h0 hd
      rw [if_pos (by rfl)]
      go_simp
      exact unhide hK _ _ ⟨true, true, true, true, true, true, true, true, true, true, true, true, dm, rfl, rfl, zu kB, zu kZ, (fun _ => ⟨rfl, rfl⟩), (fun _ => rfl), (fun _ => rfl), (fun _ => ⟨rfl, rfl⟩), (fun _ => rfl), (fun _ => rfl), (fun _ => rfl), (fun _ => ⟨rfl, rfl, rfl, rfl, rfl, rfl, rfl, rfl, rfl, rfl, rfl⟩)⟩
  case hend =>
    intro Lb A W hI
    obtain ⟨u0, u1, u2, u3, u4, hI⟩ := hI
    obtain ⟨u5, u6, u7, u8, u9, hI⟩ := hI
    obtain ⟨u10, u11, dm, hI⟩ := hI
    obtain ⟨hLb, hI⟩ := hI
    obtain ⟨hA, hI⟩ := hI
    obtain ⟨kB, hI⟩ := hI
    obtain ⟨kZ, hI⟩ := hI
    obtain ⟨l3, hI⟩ := hI
    obtain ⟨l4, hI⟩ := hI
    obtain ⟨l5, hI⟩ := hI
    obtain ⟨l6, hI⟩ := hI
    obtain ⟨l7, hI⟩ := hI
    obtain ⟨l8, hI⟩ := hI
    obtain ⟨l10, hI⟩ := hI
    have kF := hI
    clear hI
    subst hLb
    subst hA
    intro hL
    have hl : u0 = true ∧ u1 = true ∧ u2 = true ∧ u3 = true ∧ u4 = true ∧ u5 = true ∧ u6 = true ∧ u7 = true ∧ u8 = true ∧ u9 = true ∧ u10 = true ∧ u11 = true := by
      have h2 := congrArg Array.toList hL
      simpa [List.replicate] using h2
    obtain ⟨rfl, rfl, rfl, rfl, rfl, rfl, rfl, rfl, rfl, rfl, rfl, rfl⟩ := hl
    obtain ⟨W1, hA, hZ⟩ := kZ rfl
    exact unhide HQ  W1 W hZ hA

end Go.Proofs.Ytimkinpbimangaa
