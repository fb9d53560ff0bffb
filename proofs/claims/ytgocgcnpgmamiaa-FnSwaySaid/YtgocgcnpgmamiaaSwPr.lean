/-
  Statements of the program's Sway that draw their order.
-/
import Derived.Test.YtgocgcnpgmamiaaFlOk
import Derived.Test.YtgocgcnpgmamiaaInv2
namespace Go.Proofs.Ytgocgcnpgmamiaa
open Go.ChangeShapes Go.WideShapes Go.ChangeAt Go.RowKit
set_option linter.unusedVariables false
set_option linter.unusedSimpArgs false

attribute [local go_sem] run_store_flt run_store_cpx
noncomputable def rg44 (id : Nat) : Go.Code := match Try.f44.body with | some c => (regOfZ id c).getD .skip | none => .skip
noncomputable def rg45 (id : Nat) : Go.Code := match Try.f45.body with | some c => (regOfZ id c).getD .skip | none => .skip
set_option maxHeartbeats 4000000 in
set_option maxRecDepth 100000 in
theorem dr5 {s0 s3 s4 s5 s6 s7 s10 s11 s12 s13 s14 s15 s16 s17 s18 s19 s20 s21 s22 s23 s24 s25 s26 s27 s28 s29 s30 s31 s32 s33 s34 s35 s36 s37 s38 s39 s40 s41 s42 s43 s44 s45 s46 s47 s48 s49 s50 s51 s52 s53 s54 s55 s56 s57 s58 s59 s60 s61 s62 s63 s64 : Value} {wb gm gl n cl i x0 l0 l1 r1 r2 : Nat} {V : World} {K_ : Act → World → Prop} (HM1 : Hid (∀ W : World, (binOp .mul 28 (.float .f64 wb) (.float .f64 wb)).run Try.prog W = .ok (.float .f64 r1) W)) (HM2 : Hid (∀ W : World, (binOp .mul 28 (.float .f64 r1) (.float .f64 x0)).run Try.prog W = .ok (.float .f64 r2) W)) (HNG : Hid (∀ W : World, (Op.unary .neg (.float .f64 r2)).run Try.prog W = .ok (.float .f64 (Op.negFloat .f64 r2)) W))
    (HC0 : Hid (V.cell? ⟨gm, 0, none⟩ = some (.float .f64 x0))) (HC1 : Hid (V.cell? ⟨gl, i, none⟩ = some (.complex .f64 l0 l1))) 
    (HX10 : Hid (i < n))
    (hQ : ∀  (W1 : World), Below V.heap.size V W1 → K_ { tmps := #[s0, .slice (some ⟨gl, 0, none⟩) n cl, .float .f64 wb, s3, s4, s5, s6, s7, .int .i64 (i : Int), .pointer (some ⟨gm, 0, none⟩), .complex .f64 (Op.negFloat .f64 r2) 0, .complex .f64 l0 l1, s12, s13, s14, s15, s16, s17, s18, s19, s20, s21, .float .f64 wb, .float .f64 wb, .float .f64 r1, .pointer (some ⟨gm, 0, none⟩), .float .f64 x0, .float .f64 r2, .float .f64 (Op.negFloat .f64 r2), .complex .f64 (Op.negFloat .f64 r2) 0, .slice (some ⟨gl, 0, none⟩) n cl, .int .i64 (i : Int), .pointer (some ⟨gl, i, none⟩), .complex .f64 l0 l1, s34, s35, s36, s37, s38, s39, s40, s41, s42, s43, s44, s45, s46, s47, s48, s49, s50, s51, s52, s53, s54, s55, s56, s57, s58, s59, s60, s61, s62, s63, s64], defers := [] } W1) :
    Go.Code.wp Try.prog (rg44 5) (Only K_) { tmps := #[s0, .slice (some ⟨gl, 0, none⟩) n cl, .float .f64 wb, s3, s4, s5, s6, s7, .int .i64 (i : Int), .pointer (some ⟨gm, 0, none⟩), s10, s11, s12, s13, s14, s15, s16, s17, s18, s19, s20, s21, s22, s23, s24, s25, s26, s27, s28, s29, s30, s31, s32, s33, s34, s35, s36, s37, s38, s39, s40, s41, s42, s43, s44, s45, s46, s47, s48, s49, s50, s51, s52, s53, s54, s55, s56, s57, s58, s59, s60, s61, s62, s63, s64], defers := [] } V := by
  have HQ := hide hQ
  clear hQ
  conv => arg 2; whnf
  refine wp_region_inv2 (fun Lb A W => ∃ (u0 u1 u2 u3 u4 u5 u6 u7 u8 u9 u10 u11 u12 u13 : Bool) (dm : Nat), Lb = #[u0, u1, u2, u3, u4, u5, u6, u7, u8, u9, u10, u11, u12, u13] ∧ A = ({ tmps := #[s0, .slice (some ⟨gl, 0, none⟩) n cl, .float .f64 wb, s3, s4, s5, s6, s7, .int .i64 (i : Int), .pointer (some ⟨gm, 0, none⟩), (bif u12 then .complex .f64 (Op.negFloat .f64 r2) 0 else s10), (bif u13 then .complex .f64 l0 l1 else s11), s12, s13, s14, s15, s16, s17, s18, s19, s20, s21, (bif u0 then .float .f64 wb else s22), (bif u1 then .float .f64 wb else s23), (bif u2 then .float .f64 r1 else s24), (bif u3 then .pointer (some ⟨gm, 0, none⟩) else s25), (bif u4 then .float .f64 x0 else s26), (bif u5 then .float .f64 r2 else s27), (bif u6 then .float .f64 (Op.negFloat .f64 r2) else s28), (bif u7 then .complex .f64 (Op.negFloat .f64 r2) 0 else s29), (bif u8 then .slice (some ⟨gl, 0, none⟩) n cl else s30), (bif u9 then .int .i64 (i : Int) else s31), (bif u10 then .pointer (some ⟨gl, i, none⟩) else s32), (bif u11 then .complex .f64 l0 l1 else s33), s34, s35, s36, s37, s38, s39, s40, s41, s42, s43, s44, s45, s46, s47, s48, s49, s50, s51, s52, s53, s54, s55, s56, s57, s58, s59, s60, s61, s62, s63, s64], defers := [] } : Act) ∧ Below V.heap.size V W ∧ (u13 = true → u0 = true ∧ u1 = true ∧ u2 = true ∧ u3 = true ∧ u4 = true ∧ u5 = true ∧ u6 = true ∧ u7 = true ∧ u8 = true ∧ u9 = true ∧ u10 = true ∧ u11 = true ∧ u12 = true)) (by kernel_rfl) (by kernel_rfl) ?h0 ?hstep ?hend
  case h0 =>
    exact ⟨false, false, false, false, false, false, false, false, false, false, false, false, false, false, 0, rfl, rfl, Below.drew (Below.refl _ _), zf⟩
  case hstep =>
    intro Lb A W hI
    obtain ⟨u0, u1, u2, u3, u4, hI⟩ := hI
    obtain ⟨u5, u6, u7, u8, u9, hI⟩ := hI
    obtain ⟨u10, u11, u12, u13, dm, hI⟩ := hI
    obtain ⟨hLb, hI⟩ := hI
    obtain ⟨hA, hI⟩ := hI
    obtain ⟨kB, hI⟩ := hI
    have kF := hI
    clear hI
    subst hLb
    subst hA
    replace kB := hide kB
    replace kF := hide kF
    refine ⟨?_, ?_, ?_, ?_, ?_, ?_, ?_, ?_, ?_, ?_, ?_, ?_, ?_, ?_, trivial⟩
    · intro h0 hd K hK
      have z : u0 = false := h0
      have z13_ : u13 = false := znb fun hu => z.symm.trans ((zu kF hu).1)
      subst z13_
      subst z
      clear h0 hd
      rw [if_pos (by rfl)]
      go_simp
      exact unhide hK _ _ ⟨true, u1, u2, u3, u4, u5, u6, u7, u8, u9, u10, u11, u12, false, dm, rfl, rfl, zu kB, zf⟩
    · intro h0 hd K hK
      have z : u1 = false := h0
      have z13_ : u13 = false := znb fun hu => z.symm.trans ((zu kF hu).2.1)
      subst z13_
      subst z
      clear h0 hd
      rw [if_pos (by rfl)]
      go_simp
      exact unhide hK _ _ ⟨u0, true, u2, u3, u4, u5, u6, u7, u8, u9, u10, u11, u12, false, dm, rfl, rfl, zu kB, zf⟩
    · intro h0 hd K hK
      have z : u2 = false := h0
      have z13_ : u13 = false := znb fun hu => z.symm.trans ((zu kF hu).2.2.1)
      have zd : u0 = true ∧ u1 = true := by
        simp [Region.binds] at hd
        simp [hd]
      obtain ⟨rfl, rfl⟩ := zd
      subst z13_
      subst z
      clear h0 hd
      rw [if_pos (by rfl)]
      have hm1 := unhide HM1
      go_simp
      exact unhide hK _ _ ⟨true, true, true, u3, u4, u5, u6, u7, u8, u9, u10, u11, u12, false, dm, rfl, rfl, zu kB, zf⟩
    · intro h0 hd K hK
      have z : u3 = false := h0
      have z13_ : u13 = false := znb fun hu => z.symm.trans ((zu kF hu).2.2.2.1)
      subst z13_
      subst z
      clear h0 hd
      rw [if_pos (by rfl)]
      go_simp
      exact unhide hK _ _ ⟨u0, u1, u2, true, u4, u5, u6, u7, u8, u9, u10, u11, u12, false, dm, rfl, rfl, zu kB, zf⟩
    · intro h0 hd K hK
      have z : u4 = false := h0
      have z13_ : u13 = false := znb fun hu => z.symm.trans ((zu kF hu).2.2.2.2.1)
      have zd : u3 = true := by
        simp [Region.binds] at hd
        simp [hd]
      obtain ⟨rfl⟩ := zd
      subst z13_
      subst z
      clear h0 hd
      rw [if_pos (by rfl)]
      have c0 := keep1 (zu kB) (unhide HC0)
      go_simp
      exact unhide hK _ _ ⟨u0, u1, u2, true, true, u5, u6, u7, u8, u9, u10, u11, u12, false, dm, rfl, rfl, zu kB, zf⟩
    · intro h0 hd K hK
      have z : u5 = false := h0
      have z13_ : u13 = false := znb fun hu => z.symm.trans ((zu kF hu).2.2.2.2.2.1)
      have zd : u2 = true ∧ u4 = true := by
        simp [Region.binds] at hd
        simp [hd]
      obtain ⟨rfl, rfl⟩ := zd
      subst z13_
      subst z
      clear h0 hd
      rw [if_pos (by rfl)]
      have hm2 := unhide HM2
      go_simp
      exact unhide hK _ _ ⟨u0, u1, true, u3, true, true, u6, u7, u8, u9, u10, u11, u12, false, dm, rfl, rfl, zu kB, zf⟩
    · intro h0 hd K hK
      have z : u6 = false := h0
      have z13_ : u13 = false := znb fun hu => z.symm.trans ((zu kF hu).2.2.2.2.2.2.1)
      have zd : u5 = true := by
        simp [Region.binds] at hd
        simp [hd]
      obtain ⟨rfl⟩ := zd
      subst z13_
      subst z
      clear h0 hd
      rw [if_pos (by rfl)]
      have hng := unhide HNG
      go_simp
      exact unhide hK _ _ ⟨u0, u1, u2, u3, u4, true, true, u7, u8, u9, u10, u11, u12, false, dm, rfl, rfl, zu kB, zf⟩
    · intro h0 hd K hK
      have z : u7 = false := h0
      have z13_ : u13 = false := znb fun hu => z.symm.trans ((zu kF hu).2.2.2.2.2.2.2.1)
      have zd : u6 = true := by
        simp [Region.binds] at hd
        simp [hd]
      obtain ⟨rfl⟩ := zd
      subst z13_
      subst z
      clear h0 hd
      rw [if_pos (by rfl)]
      go_simp
      exact unhide hK _ _ ⟨u0, u1, u2, u3, u4, u5, true, true, u8, u9, u10, u11, u12, false, dm, rfl, rfl, zu kB, zf⟩
    · intro h0 hd K hK
      have z : u8 = false := h0
      have z13_ : u13 = false := znb fun hu => z.symm.trans ((zu kF hu).2.2.2.2.2.2.2.2.1)
      subst z13_
      subst z
      clear h0 hd
      rw [if_pos (by rfl)]
      go_simp
      exact unhide hK _ _ ⟨u0, u1, u2, u3, u4, u5, u6, u7, true, u9, u10, u11, u12, false, dm, rfl, rfl, zu kB, zf⟩
    · intro h0 hd K hK
      have z : u9 = false := h0
      have z13_ : u13 = false := znb fun hu => z.symm.trans ((zu kF hu).2.2.2.2.2.2.2.2.2.1)
      subst z13_
      subst z
      clear h0 hd
      rw [if_pos (by rfl)]
      go_simp
      exact unhide hK _ _ ⟨u0, u1, u2, u3, u4, u5, u6, u7, u8, true, u10, u11, u12, false, dm, rfl, rfl, zu kB, zf⟩
    · intro h0 hd K hK
      have z : u10 = false := h0
      have z13_ : u13 = false := znb fun hu => z.symm.trans ((zu kF hu).2.2.2.2.2.2.2.2.2.2.1)
      have zd : u8 = true ∧ u9 = true := by
        simp [Region.binds] at hd
        simp [hd]
      obtain ⟨rfl, rfl⟩ := zd
      subst z13_
      subst z
      clear h0 hd
      rw [if_pos (by rfl)]
      have q1 : i < n := unhide HX10
      have q2 : (i : Int) < (n : Int) := by omega
      go_simp
      exact unhide hK _ _ ⟨u0, u1, u2, u3, u4, u5, u6, u7, true, true, true, u11, u12, false, dm, rfl, rfl, zu kB, zf⟩
    · intro h0 hd K hK
      have z : u11 = false := h0
      have z13_ : u13 = false := znb fun hu => z.symm.trans ((zu kF hu).2.2.2.2.2.2.2.2.2.2.2.1)
      have zd : u10 = true := by
        simp [Region.binds] at hd
        simp [hd]
      obtain ⟨rfl⟩ := zd
      subst z13_
      subst z
      clear h0 hd
      rw [if_pos (by rfl)]
      have c0 := keep1 (zu kB) (unhide HC1)
      go_simp
      exact unhide hK _ _ ⟨u0, u1, u2, u3, u4, u5, u6, u7, u8, u9, true, true, u12, false, dm, rfl, rfl, zu kB, zf⟩
    · intro h0 hd K hK
      have z : u12 = false := h0
      have z13_ : u13 = false := znb fun hu => z.symm.trans ((zu kF hu).2.2.2.2.2.2.2.2.2.2.2.2)
      have zd : u7 = true := by
        simp [Region.binds] at hd
        simp [hd]
      obtain ⟨rfl⟩ := zd
      subst z13_
      subst z
      clear h0 hd
      rw [if_pos (by rfl)]
      go_simp
      exact unhide hK _ _ ⟨u0, u1, u2, u3, u4, u5, u6, true, u8, u9, u10, u11, true, false, dm, rfl, rfl, zu kB, zf⟩
    · intro h0 hd K hK
      have z : u13 = false := h0
      have zd0 : u0 = true ∧ u1 = true ∧ u2 = true ∧ u3 = true ∧ u4 = true ∧ u5 = true ∧ u6 = true ∧ u7 = true ∧ u8 = true ∧ u9 = true ∧ u10 = true ∧ u11 = true ∧ u12 = true := by
        simp [Region.binds] at hd
        simp [hd]
      have zd : u0 = true ∧ u1 = true ∧ u2 = true ∧ u3 = true ∧ u4 = true ∧ u5 = true ∧ u6 = true ∧ u7 = true ∧ u8 = true ∧ u9 = true ∧ u10 = true ∧ u11 = true ∧ u12 = true := ⟨zd0.1, zd0.2.1, zd0.2.2.1, zd0.2.2.2.1, zd0.2.2.2.2.1, zd0.2.2.2.2.2.1, zd0.2.2.2.2.2.2.1, zd0.2.2.2.2.2.2.2.1, zd0.2.2.2.2.2.2.2.2.1, zd0.2.2.2.2.2.2.2.2.2.1, zd0.2.2.2.2.2.2.2.2.2.2.1, zd0.2.2.2.2.2.2.2.2.2.2.2.1, zd0.2.2.2.2.2.2.2.2.2.2.2.2⟩
      obtain ⟨rfl, rfl, rfl, rfl, rfl, rfl, rfl, rfl, rfl, rfl, rfl, rfl, rfl⟩ := zd
      subst z
      clear h0 hd
      rw [if_pos (by rfl)]
      go_simp
      exact unhide hK _ _ ⟨true, true, true, true, true, true, true, true, true, true, true, true, true, true, dm, rfl, rfl, zu kB, (fun _ => ⟨rfl, rfl, rfl, rfl, rfl, rfl, rfl, rfl, rfl, rfl, rfl, rfl, rfl⟩)⟩
  case hend =>
    intro Lb A W hI
    obtain ⟨u0, u1, u2, u3, u4, hI⟩ := hI
    obtain ⟨u5, u6, u7, u8, u9, hI⟩ := hI
    obtain ⟨u10, u11, u12, u13, dm, hI⟩ := hI
    obtain ⟨hLb, hI⟩ := hI
    obtain ⟨hA, hI⟩ := hI
    obtain ⟨kB, hI⟩ := hI
    have kF := hI
    clear hI
    subst hLb
    subst hA
    intro hL
    have hl : u0 = true ∧ u1 = true ∧ u2 = true ∧ u3 = true ∧ u4 = true ∧ u5 = true ∧ u6 = true ∧ u7 = true ∧ u8 = true ∧ u9 = true ∧ u10 = true ∧ u11 = true ∧ u12 = true ∧ u13 = true := by
      have h2 := congrArg Array.toList hL
      simpa [List.replicate] using h2
    obtain ⟨rfl, rfl, rfl, rfl, rfl, rfl, rfl, rfl, rfl, rfl, rfl, rfl, rfl, rfl⟩ := hl
    exact unhide HQ   W kB

set_option maxHeartbeats 4000000 in
set_option maxRecDepth 100000 in
theorem dr7 {s0 s2 s3 s4 s5 s6 s9 s10 s11 s12 s13 s14 s15 s16 s17 s18 s19 s20 s21 s22 s23 s24 s25 s26 s27 s28 s29 s30 s31 s32 s33 s34 s35 s36 s37 s38 s39 s40 s41 s42 s43 s44 s45 s46 s47 s48 s49 s50 s51 s52 s53 s54 s55 s56 s57 s58 s59 s60 s61 s62 s63 s64 : Value} {gl n cl i gg j l0 l1 d0 d1 : Nat} {Tm Ta_ Tb : Tn} {V : World} {K_ : Act → World → Prop} (HTA : Hid ((fop .add .f64 (Fv .f64 d0) (Fv .f64 l0), fop .add .f64 (Fv .f64 d1) (Fv .f64 l1)) = Ta_))
    (HC0 : Hid (V.cell? ⟨gl, i, none⟩ = some (.complex .f64 l0 l1))) (HC1 : Hid (V.cell? ⟨gg, j, none⟩ = some (.complex .f64 d0 d1))) 
    (HX2 : Hid (i < n))
    (HW6 : Hid (IntKind.i64.wrap ((i : Int) - 1) = (j : Int)))
    (HX7 : Hid (j < n))
    (HF9 : Hid (∀ Xw, Below V.heap.size V Xw → Calls Try.prog 71 #[.complex .f64 l0 l1, .complex .f64 d0 d1] Xw fun e w' => (∃ re9 im9 : Nat, e = .returned (.complex .f64 re9 im9) ∧ tv re9 im9 = Tm) ∧ Below Xw.heap.size Xw w'))
    (HW12 : Hid (IntKind.i64.wrap ((i : Int) - 1) = (j : Int)))
    (HX13 : Hid (j < n))
    (HX17 : Hid (i < n))
    (HF20 : Hid (∀ re9 im9 : Nat, tv re9 im9 = Tm → ∀ rea ima : Nat, tv rea ima = Ta_ → ∀ Xw, Below V.heap.size V Xw → Calls Try.prog 70 #[.complex .f64 re9 im9, .complex .f64 rea ima] Xw fun e w' => (∃ reb imb : Nat, e = .returned (.complex .f64 reb imb) ∧ tv reb imb = Tb) ∧ Below Xw.heap.size Xw w'))
    (hQ : ∀  (re9 im9 : Nat) (rea ima : Nat) (reb imb : Nat) (W1 : World), Below V.heap.size V W1 → tv re9 im9 = Tm → tv rea ima = Ta_ → tv reb imb = Tb → K_ { tmps := #[s0, .slice (some ⟨gl, 0, none⟩) n cl, s2, s3, s4, s5, s6, .slice (some ⟨gg, 0, none⟩) n n, .int .i64 (i : Int), s9, s10, .complex .f64 reb imb, s12, s13, s14, s15, s16, s17, s18, s19, s20, s21, s22, s23, s24, s25, s26, s27, s28, s29, s30, s31, s32, s33, s34, s35, .slice (some ⟨gl, 0, none⟩) n cl, .int .i64 (i : Int), .pointer (some ⟨gl, i, none⟩), .complex .f64 l0 l1, .slice (some ⟨gg, 0, none⟩) n n, .int .i64 (i : Int), .int .i64 (j : Int), .pointer (some ⟨gg, j, none⟩), .complex .f64 d0 d1, .complex .f64 re9 im9, .slice (some ⟨gg, 0, none⟩) n n, .int .i64 (i : Int), .int .i64 (j : Int), .pointer (some ⟨gg, j, none⟩), .complex .f64 d0 d1, .slice (some ⟨gl, 0, none⟩) n cl, .int .i64 (i : Int), .pointer (some ⟨gl, i, none⟩), .complex .f64 l0 l1, .complex .f64 rea ima, .complex .f64 reb imb, s57, s58, s59, s60, s61, s62, s63, s64], defers := [] } W1) :
    Go.Code.wp Try.prog (rg44 7) (Only K_) { tmps := #[s0, .slice (some ⟨gl, 0, none⟩) n cl, s2, s3, s4, s5, s6, .slice (some ⟨gg, 0, none⟩) n n, .int .i64 (i : Int), s9, s10, s11, s12, s13, s14, s15, s16, s17, s18, s19, s20, s21, s22, s23, s24, s25, s26, s27, s28, s29, s30, s31, s32, s33, s34, s35, s36, s37, s38, s39, s40, s41, s42, s43, s44, s45, s46, s47, s48, s49, s50, s51, s52, s53, s54, s55, s56, s57, s58, s59, s60, s61, s62, s63, s64], defers := [] } V := by
  have HQ := hide hQ
  clear hQ
  conv => arg 2; whnf
  refine wp_region_inv2 (fun Lb A W => ∃ (u0 u1 u2 u3 u4 u5 u6 u7 u8 u9 u10 u11 u12 u13 u14 u15 u16 u17 u18 u19 u20 u21 : Bool) (re9 : Nat) (im9 : Nat) (rea : Nat) (ima : Nat) (reb : Nat) (imb : Nat), Lb = #[u0, u1, u2, u3, u4, u5, u6, u7, u8, u9, u10, u11, u12, u13, u14, u15, u16, u17, u18, u19, u20, u21] ∧ A = ({ tmps := #[s0, .slice (some ⟨gl, 0, none⟩) n cl, s2, s3, s4, s5, s6, .slice (some ⟨gg, 0, none⟩) n n, .int .i64 (i : Int), s9, s10, (bif u21 then .complex .f64 reb imb else s11), s12, s13, s14, s15, s16, s17, s18, s19, s20, s21, s22, s23, s24, s25, s26, s27, s28, s29, s30, s31, s32, s33, s34, s35, (bif u0 then .slice (some ⟨gl, 0, none⟩) n cl else s36), (bif u1 then .int .i64 (i : Int) else s37), (bif u2 then .pointer (some ⟨gl, i, none⟩) else s38), (bif u3 then .complex .f64 l0 l1 else s39), (bif u4 then .slice (some ⟨gg, 0, none⟩) n n else s40), (bif u5 then .int .i64 (i : Int) else s41), (bif u6 then .int .i64 (j : Int) else s42), (bif u7 then .pointer (some ⟨gg, j, none⟩) else s43), (bif u8 then .complex .f64 d0 d1 else s44), (bif u9 then .complex .f64 re9 im9 else s45), (bif u10 then .slice (some ⟨gg, 0, none⟩) n n else s46), (bif u11 then .int .i64 (i : Int) else s47), (bif u12 then .int .i64 (j : Int) else s48), (bif u13 then .pointer (some ⟨gg, j, none⟩) else s49), (bif u14 then .complex .f64 d0 d1 else s50), (bif u15 then .slice (some ⟨gl, 0, none⟩) n cl else s51), (bif u16 then .int .i64 (i : Int) else s52), (bif u17 then .pointer (some ⟨gl, i, none⟩) else s53), (bif u18 then .complex .f64 l0 l1 else s54), (bif u19 then .complex .f64 rea ima else s55), (bif u20 then .complex .f64 reb imb else s56), s57, s58, s59, s60, s61, s62, s63, s64], defers := [] } : Act) ∧ Below V.heap.size V W ∧ (u9 = true → tv re9 im9 = Tm) ∧ (u19 = true → tv rea ima = Ta_) ∧ (u20 = true → tv reb imb = Tb) ∧ (u21 = true → u0 = true ∧ u1 = true ∧ u2 = true ∧ u3 = true ∧ u4 = true ∧ u5 = true ∧ u6 = true ∧ u7 = true ∧ u8 = true ∧ u9 = true ∧ u10 = true ∧ u11 = true ∧ u12 = true ∧ u13 = true ∧ u14 = true ∧ u15 = true ∧ u16 = true ∧ u17 = true ∧ u18 = true ∧ u19 = true ∧ u20 = true)) (by kernel_rfl) (by kernel_rfl) ?h0 ?hstep ?hend
  case h0 =>
    exact ⟨false, false, false, false, false, false, false, false, false, false, false, false, false, false, false, false, false, false, false, false, false, false, 0, 0, 0, 0, 0, 0, rfl, rfl, Below.drew (Below.refl _ _), zf, zf, zf, zf⟩
  case hstep =>
    intro Lb A W hI
    obtain ⟨u0, u1, u2, u3, u4, hI⟩ := hI
    obtain ⟨u5, u6, u7, u8, u9, hI⟩ := hI
    obtain ⟨u10, u11, u12, u13, u14, hI⟩ := hI
    obtain ⟨u15, u16, u17, u18, u19, hI⟩ := hI
    obtain ⟨u20, u21, re9, im9, rea, hI⟩ := hI
    obtain ⟨ima, reb, imb, hI⟩ := hI
    obtain ⟨hLb, hI⟩ := hI
    obtain ⟨hA, hI⟩ := hI
    obtain ⟨kB, hI⟩ := hI
    obtain ⟨kx9, hI⟩ := hI
    obtain ⟨kx19, hI⟩ := hI
    obtain ⟨kx20, hI⟩ := hI
    have kF := hI
    clear hI
    subst hLb
    subst hA
    replace kB := hide kB
    replace kx9 := hide kx9
    replace kx19 := hide kx19
    replace kx20 := hide kx20
    replace kF := hide kF
    refine ⟨?_, ?_, ?_, ?_, ?_, ?_, ?_, ?_, ?_, ?_, ?_, ?_, ?_, ?_, ?_, ?_, ?_, ?_, ?_, ?_, ?_, ?_, trivial⟩
    · intro h0 hd K hK
      have z : u0 = false := h0
      have z21_ : u21 = false := znb fun hu => z.symm.trans ((zu kF hu).1)
      subst z21_
      subst z
      clear h0 hd
      rw [if_pos (by rfl)]
      go_simp
      exact unhide hK _ _ ⟨true, u1, u2, u3, u4, u5, u6, u7, u8, u9, u10, u11, u12, u13, u14, u15, u16, u17, u18, u19, u20, false, re9, im9, rea, ima, reb, imb, rfl, rfl, zu kB, zu kx9, zu kx19, zu kx20, zf⟩
    · intro h0 hd K hK
      have z : u1 = false := h0
      have z21_ : u21 = false := znb fun hu => z.symm.trans ((zu kF hu).2.1)
      subst z21_
      subst z
      clear h0 hd
      rw [if_pos (by rfl)]
      go_simp
      exact unhide hK _ _ ⟨u0, true, u2, u3, u4, u5, u6, u7, u8, u9, u10, u11, u12, u13, u14, u15, u16, u17, u18, u19, u20, false, re9, im9, rea, ima, reb, imb, rfl, rfl, zu kB, zu kx9, zu kx19, zu kx20, zf⟩
    · intro h0 hd K hK
      have z : u2 = false := h0
      have z21_ : u21 = false := znb fun hu => z.symm.trans ((zu kF hu).2.2.1)
      have zd : u0 = true ∧ u1 = true := by
        simp [Region.binds] at hd
        simp [hd]
      obtain ⟨rfl, rfl⟩ := zd
      subst z21_
      subst z
      clear h0 hd
      rw [if_pos (by rfl)]
      have q1 : i < n := unhide HX2
      have q2 : (i : Int) < (n : Int) := by omega
      go_simp
      exact unhide hK _ _ ⟨true, true, true, u3, u4, u5, u6, u7, u8, u9, u10, u11, u12, u13, u14, u15, u16, u17, u18, u19, u20, false, re9, im9, rea, ima, reb, imb, rfl, rfl, zu kB, zu kx9, zu kx19, zu kx20, zf⟩
    · intro h0 hd K hK
      have z : u3 = false := h0
      have z21_ : u21 = false := znb fun hu => z.symm.trans ((zu kF hu).2.2.2.1)
      have zd : u2 = true := by
        simp [Region.binds] at hd
        simp [hd]
      obtain ⟨rfl⟩ := zd
      subst z21_
      subst z
      clear h0 hd
      rw [if_pos (by rfl)]
      have c0 := keep1 (zu kB) (unhide HC0)
      go_simp
      exact unhide hK _ _ ⟨u0, u1, true, true, u4, u5, u6, u7, u8, u9, u10, u11, u12, u13, u14, u15, u16, u17, u18, u19, u20, false, re9, im9, rea, ima, reb, imb, rfl, rfl, zu kB, zu kx9, zu kx19, zu kx20, zf⟩
    · intro h0 hd K hK
      have z : u4 = false := h0
      have z21_ : u21 = false := znb fun hu => z.symm.trans ((zu kF hu).2.2.2.2.1)
      subst z21_
      subst z
      clear h0 hd
      rw [if_pos (by rfl)]
      go_simp
      exact unhide hK _ _ ⟨u0, u1, u2, u3, true, u5, u6, u7, u8, u9, u10, u11, u12, u13, u14, u15, u16, u17, u18, u19, u20, false, re9, im9, rea, ima, reb, imb, rfl, rfl, zu kB, zu kx9, zu kx19, zu kx20, zf⟩
    · intro h0 hd K hK
      have z : u5 = false := h0
      have z21_ : u21 = false := znb fun hu => z.symm.trans ((zu kF hu).2.2.2.2.2.1)
      subst z21_
      subst z
      clear h0 hd
      rw [if_pos (by rfl)]
      go_simp
      exact unhide hK _ _ ⟨u0, u1, u2, u3, u4, true, u6, u7, u8, u9, u10, u11, u12, u13, u14, u15, u16, u17, u18, u19, u20, false, re9, im9, rea, ima, reb, imb, rfl, rfl, zu kB, zu kx9, zu kx19, zu kx20, zf⟩
    · intro h0 hd K hK
      have z : u6 = false := h0
      have z21_ : u21 = false := znb fun hu => z.symm.trans ((zu kF hu).2.2.2.2.2.2.1)
      have zd : u5 = true := by
        simp [Region.binds] at hd
        simp [hd]
      obtain ⟨rfl⟩ := zd
      subst z21_
      subst z
      clear h0 hd
      rw [if_pos (by rfl)]
      have wq := unhide HW6
      go_simp
      exact unhide hK _ _ ⟨u0, u1, u2, u3, u4, true, true, u7, u8, u9, u10, u11, u12, u13, u14, u15, u16, u17, u18, u19, u20, false, re9, im9, rea, ima, reb, imb, rfl, rfl, zu kB, zu kx9, zu kx19, zu kx20, zf⟩
    · intro h0 hd K hK
      have z : u7 = false := h0
      have z21_ : u21 = false := znb fun hu => z.symm.trans ((zu kF hu).2.2.2.2.2.2.2.1)
      have zd : u4 = true ∧ u6 = true := by
        simp [Region.binds] at hd
        simp [hd]
      obtain ⟨rfl, rfl⟩ := zd
      subst z21_
      subst z
      clear h0 hd
      rw [if_pos (by rfl)]
      have q1 : j < n := unhide HX7
      have q2 : (j : Int) < (n : Int) := by omega
      go_simp
      exact unhide hK _ _ ⟨u0, u1, u2, u3, true, u5, true, true, u8, u9, u10, u11, u12, u13, u14, u15, u16, u17, u18, u19, u20, false, re9, im9, rea, ima, reb, imb, rfl, rfl, zu kB, zu kx9, zu kx19, zu kx20, zf⟩
    · intro h0 hd K hK
      have z : u8 = false := h0
      have z21_ : u21 = false := znb fun hu => z.symm.trans ((zu kF hu).2.2.2.2.2.2.2.2.1)
      have zd : u7 = true := by
        simp [Region.binds] at hd
        simp [hd]
      obtain ⟨rfl⟩ := zd
      subst z21_
      subst z
      clear h0 hd
      rw [if_pos (by rfl)]
      have c0 := keep1 (zu kB) (unhide HC1)
      go_simp
      exact unhide hK _ _ ⟨u0, u1, u2, u3, u4, u5, u6, true, true, u9, u10, u11, u12, u13, u14, u15, u16, u17, u18, u19, u20, false, re9, im9, rea, ima, reb, imb, rfl, rfl, zu kB, zu kx9, zu kx19, zu kx20, zf⟩
    · intro h0 hd K hK
      have z : u9 = false := h0
      have z21_ : u21 = false := znb fun hu => z.symm.trans ((zu kF hu).2.2.2.2.2.2.2.2.2.1)
      have zd : u3 = true ∧ u8 = true := by
        simp [Region.binds] at hd
        simp [hd]
      obtain ⟨rfl, rfl⟩ := zd
      subst z21_
      subst z
      clear h0 hd
      rw [if_pos (by rfl)]
      go_simp
      refine (unhide HF9 W (zu kB)).mono ?_
      rintro e w8 ⟨⟨re9_, im9_, rfl, hr_⟩, hb8⟩
      exact unhide hK _ _ ⟨u0, u1, u2, true, u4, u5, u6, u7, true, true, u10, u11, u12, u13, u14, u15, u16, u17, u18, u19, u20, false, re9_, im9_, rea, ima, reb, imb, rfl, rfl, bc (zu kB) hb8, (fun _ => hr_), zu kx19, zu kx20, zf⟩
    · intro h0 hd K hK
      have z : u10 = false := h0
      have z21_ : u21 = false := znb fun hu => z.symm.trans ((zu kF hu).2.2.2.2.2.2.2.2.2.2.1)
      subst z21_
      subst z
      clear h0 hd
      rw [if_pos (by rfl)]
      go_simp
      exact unhide hK _ _ ⟨u0, u1, u2, u3, u4, u5, u6, u7, u8, u9, true, u11, u12, u13, u14, u15, u16, u17, u18, u19, u20, false, re9, im9, rea, ima, reb, imb, rfl, rfl, zu kB, zu kx9, zu kx19, zu kx20, zf⟩
    · intro h0 hd K hK
      have z : u11 = false := h0
      have z21_ : u21 = false := znb fun hu => z.symm.trans ((zu kF hu).2.2.2.2.2.2.2.2.2.2.2.1)
      subst z21_
      subst z
      clear h0 hd
      rw [if_pos (by rfl)]
      go_simp
      exact unhide hK _ _ ⟨u0, u1, u2, u3, u4, u5, u6, u7, u8, u9, u10, true, u12, u13, u14, u15, u16, u17, u18, u19, u20, false, re9, im9, rea, ima, reb, imb, rfl, rfl, zu kB, zu kx9, zu kx19, zu kx20, zf⟩
    · intro h0 hd K hK
      have z : u12 = false := h0
      have z21_ : u21 = false := znb fun hu => z.symm.trans ((zu kF hu).2.2.2.2.2.2.2.2.2.2.2.2.1)
      have zd : u11 = true := by
        simp [Region.binds] at hd
        simp [hd]
      obtain ⟨rfl⟩ := zd
      subst z21_
      subst z
      clear h0 hd
      rw [if_pos (by rfl)]
      have wq := unhide HW12
      go_simp
      exact unhide hK _ _ ⟨u0, u1, u2, u3, u4, u5, u6, u7, u8, u9, u10, true, true, u13, u14, u15, u16, u17, u18, u19, u20, false, re9, im9, rea, ima, reb, imb, rfl, rfl, zu kB, zu kx9, zu kx19, zu kx20, zf⟩
    · intro h0 hd K hK
      have z : u13 = false := h0
      have z21_ : u21 = false := znb fun hu => z.symm.trans ((zu kF hu).2.2.2.2.2.2.2.2.2.2.2.2.2.1)
      have zd : u10 = true ∧ u12 = true := by
        simp [Region.binds] at hd
        simp [hd]
      obtain ⟨rfl, rfl⟩ := zd
      subst z21_
      subst z
      clear h0 hd
      rw [if_pos (by rfl)]
      have q1 : j < n := unhide HX13
      have q2 : (j : Int) < (n : Int) := by omega
      go_simp
      exact unhide hK _ _ ⟨u0, u1, u2, u3, u4, u5, u6, u7, u8, u9, true, u11, true, true, u14, u15, u16, u17, u18, u19, u20, false, re9, im9, rea, ima, reb, imb, rfl, rfl, zu kB, zu kx9, zu kx19, zu kx20, zf⟩
    · intro h0 hd K hK
      have z : u14 = false := h0
      have z21_ : u21 = false := znb fun hu => z.symm.trans ((zu kF hu).2.2.2.2.2.2.2.2.2.2.2.2.2.2.1)
      have zd : u13 = true := by
        simp [Region.binds] at hd
        simp [hd]
      obtain ⟨rfl⟩ := zd
      subst z21_
      subst z
      clear h0 hd
      rw [if_pos (by rfl)]
      have c0 := keep1 (zu kB) (unhide HC1)
      go_simp
      exact unhide hK _ _ ⟨u0, u1, u2, u3, u4, u5, u6, u7, u8, u9, u10, u11, u12, true, true, u15, u16, u17, u18, u19, u20, false, re9, im9, rea, ima, reb, imb, rfl, rfl, zu kB, zu kx9, zu kx19, zu kx20, zf⟩
    · intro h0 hd K hK
      have z : u15 = false := h0
      have z21_ : u21 = false := znb fun hu => z.symm.trans ((zu kF hu).2.2.2.2.2.2.2.2.2.2.2.2.2.2.2.1)
      subst z21_
      subst z
      clear h0 hd
      rw [if_pos (by rfl)]
      go_simp
      exact unhide hK _ _ ⟨u0, u1, u2, u3, u4, u5, u6, u7, u8, u9, u10, u11, u12, u13, u14, true, u16, u17, u18, u19, u20, false, re9, im9, rea, ima, reb, imb, rfl, rfl, zu kB, zu kx9, zu kx19, zu kx20, zf⟩
    · intro h0 hd K hK
      have z : u16 = false := h0
      have z21_ : u21 = false := znb fun hu => z.symm.trans ((zu kF hu).2.2.2.2.2.2.2.2.2.2.2.2.2.2.2.2.1)
      subst z21_
      subst z
      clear h0 hd
      rw [if_pos (by rfl)]
      go_simp
      exact unhide hK _ _ ⟨u0, u1, u2, u3, u4, u5, u6, u7, u8, u9, u10, u11, u12, u13, u14, u15, true, u17, u18, u19, u20, false, re9, im9, rea, ima, reb, imb, rfl, rfl, zu kB, zu kx9, zu kx19, zu kx20, zf⟩
    · intro h0 hd K hK
      have z : u17 = false := h0
      have z21_ : u21 = false := znb fun hu => z.symm.trans ((zu kF hu).2.2.2.2.2.2.2.2.2.2.2.2.2.2.2.2.2.1)
      have zd : u15 = true ∧ u16 = true := by
        simp [Region.binds] at hd
        simp [hd]
      obtain ⟨rfl, rfl⟩ := zd
      subst z21_
      subst z
      clear h0 hd
      rw [if_pos (by rfl)]
      have q1 : i < n := unhide HX17
      have q2 : (i : Int) < (n : Int) := by omega
      go_simp
      exact unhide hK _ _ ⟨u0, u1, u2, u3, u4, u5, u6, u7, u8, u9, u10, u11, u12, u13, u14, true, true, true, u18, u19, u20, false, re9, im9, rea, ima, reb, imb, rfl, rfl, zu kB, zu kx9, zu kx19, zu kx20, zf⟩
    · intro h0 hd K hK
      have z : u18 = false := h0
      have z21_ : u21 = false := znb fun hu => z.symm.trans ((zu kF hu).2.2.2.2.2.2.2.2.2.2.2.2.2.2.2.2.2.2.1)
      have zd : u17 = true := by
        simp [Region.binds] at hd
        simp [hd]
      obtain ⟨rfl⟩ := zd
      subst z21_
      subst z
      clear h0 hd
      rw [if_pos (by rfl)]
      have c0 := keep1 (zu kB) (unhide HC0)
      go_simp
      exact unhide hK _ _ ⟨u0, u1, u2, u3, u4, u5, u6, u7, u8, u9, u10, u11, u12, u13, u14, u15, u16, true, true, u19, u20, false, re9, im9, rea, ima, reb, imb, rfl, rfl, zu kB, zu kx9, zu kx19, zu kx20, zf⟩
    · intro h0 hd K hK
      have z : u19 = false := h0
      have z21_ : u21 = false := znb fun hu => z.symm.trans ((zu kF hu).2.2.2.2.2.2.2.2.2.2.2.2.2.2.2.2.2.2.2.1)
      have zd : u14 = true ∧ u18 = true := by
        simp [Region.binds] at hd
        simp [hd]
      obtain ⟨rfl, rfl⟩ := zd
      subst z21_
      subst z
      clear h0 hd
      rw [if_pos (by rfl)]
      obtain ⟨rea_, ima_, n_, hrun_, hra_, hrb_⟩ := cadd_run (P := Try.prog) 72 .f64 d0 d1 l0 l1 W
      have hr_ : tv rea_ ima_ = Ta_ := (by unfold tv; rw [hra_, hrb_]; exact unhide HTA)
      clear hra_ hrb_
      go_simp
      exact unhide hK _ _ ⟨u0, u1, u2, u3, u4, u5, u6, u7, u8, u9, u10, u11, u12, u13, true, u15, u16, u17, true, true, u20, false, re9, im9, rea_, ima_, reb, imb, rfl, rfl, bel_dn' (zu kB) _, zu kx9, (fun _ => hr_), zu kx20, zf⟩
    · intro h0 hd K hK
      have z : u20 = false := h0
      have z21_ : u21 = false := znb fun hu => z.symm.trans ((zu kF hu).2.2.2.2.2.2.2.2.2.2.2.2.2.2.2.2.2.2.2.2)
      have zd : u9 = true ∧ u19 = true := by
        simp [Region.binds] at hd
        simp [hd]
      obtain ⟨rfl, rfl⟩ := zd
      subst z21_
      subst z
      clear h0 hd
      rw [if_pos (by rfl)]
      go_simp
      refine (unhide HF20 _ _ (zu kx9 rfl) _ _ (zu kx19 rfl) W (zu kB)).mono ?_
      rintro e w8 ⟨⟨reb_, imb_, rfl, hr_⟩, hb8⟩
      exact unhide hK _ _ ⟨u0, u1, u2, u3, u4, u5, u6, u7, u8, true, u10, u11, u12, u13, u14, u15, u16, u17, u18, true, true, false, re9, im9, rea, ima, reb_, imb_, rfl, rfl, bc (zu kB) hb8, zu kx9, zu kx19, (fun _ => hr_), zf⟩
    · intro h0 hd K hK
      have z : u21 = false := h0
      have zd0 : u0 = true ∧ u1 = true ∧ u2 = true ∧ u3 = true ∧ u4 = true ∧ u5 = true ∧ u6 = true ∧ u7 = true ∧ u8 = true ∧ u9 = true ∧ u10 = true ∧ u11 = true ∧ u12 = true ∧ u13 = true ∧ u14 = true ∧ u15 = true ∧ u16 = true ∧ u17 = true ∧ u18 = true ∧ u19 = true ∧ u20 = true := by
        simp [Region.binds] at hd
        simp [hd]
      have zd : u0 = true ∧ u1 = true ∧ u2 = true ∧ u3 = true ∧ u4 = true ∧ u5 = true ∧ u6 = true ∧ u7 = true ∧ u8 = true ∧ u9 = true ∧ u10 = true ∧ u11 = true ∧ u12 = true ∧ u13 = true ∧ u14 = true ∧ u15 = true ∧ u16 = true ∧ u17 = true ∧ u18 = true ∧ u19 = true ∧ u20 = true := ⟨zd0.1, zd0.2.1, zd0.2.2.1, zd0.2.2.2.1, zd0.2.2.2.2.1, zd0.2.2.2.2.2.1, zd0.2.2.2.2.2.2.1, zd0.2.2.2.2.2.2.2.1, zd0.2.2.2.2.2.2.2.2.1, zd0.2.2.2.2.2.2.2.2.2.1, zd0.2.2.2.2.2.2.2.2.2.2.1, zd0.2.2.2.2.2.2.2.2.2.2.2.1, zd0.2.2.2.2.2.2.2.2.2.2.2.2.1, zd0.2.2.2.2.2.2.2.2.2.2.2.2.2.1, zd0.2.2.2.2.2.2.2.2.2.2.2.2.2.2.1, zd0.2.2.2.2.2.2.2.2.2.2.2.2.2.2.2.1, zd0.2.2.2.2.2.2.2.2.2.2.2.2.2.2.2.2.1, zd0.2.2.2.2.2.2.2.2.2.2.2.2.2.2.2.2.2.1, zd0.2.2.2.2.2.2.2.2.2.2.2.2.2.2.2.2.2.2.1, zd0.2.2.2.2.2.2.2.2.2.2.2.2.2.2.2.2.2.2.2.1, zd0.2.2.2.2.2.2.2.2.2.2.2.2.2.2.2.2.2.2.2.2⟩
      obtain ⟨rfl, rfl, rfl, rfl, rfl, rfl, rfl, rfl, rfl, rfl, rfl, rfl, rfl, rfl, rfl, rfl, rfl, rfl, rfl, rfl, rfl⟩ := zd
      subst z
      clear h0 hd
      rw [if_pos (by rfl)]
      go_simp
      exact unhide hK _ _ ⟨true, true, true, true, true, true, true, true, true, true, true, true, true, true, true, true, true, true, true, true, true, true, re9, im9, rea, ima, reb, imb, rfl, rfl, zu kB, zu kx9, zu kx19, zu kx20, (fun _ => ⟨rfl, rfl, rfl, rfl, rfl, rfl, rfl, rfl, rfl, rfl, rfl, rfl, rfl, rfl, rfl, rfl, rfl, rfl, rfl, rfl, rfl⟩)⟩
  case hend =>
    intro Lb A W hI
    obtain ⟨u0, u1, u2, u3, u4, hI⟩ := hI
    obtain ⟨u5, u6, u7, u8, u9, hI⟩ := hI
    obtain ⟨u10, u11, u12, u13, u14, hI⟩ := hI
    obtain ⟨u15, u16, u17, u18, u19, hI⟩ := hI
    obtain ⟨u20, u21, re9, im9, rea, hI⟩ := hI
    obtain ⟨ima, reb, imb, hI⟩ := hI
    obtain ⟨hLb, hI⟩ := hI
    obtain ⟨hA, hI⟩ := hI
    obtain ⟨kB, hI⟩ := hI
    obtain ⟨kx9, hI⟩ := hI
    obtain ⟨kx19, hI⟩ := hI
    obtain ⟨kx20, hI⟩ := hI
    have kF := hI
    clear hI
    subst hLb
    subst hA
    intro hL
    have hl : u0 = true ∧ u1 = true ∧ u2 = true ∧ u3 = true ∧ u4 = true ∧ u5 = true ∧ u6 = true ∧ u7 = true ∧ u8 = true ∧ u9 = true ∧ u10 = true ∧ u11 = true ∧ u12 = true ∧ u13 = true ∧ u14 = true ∧ u15 = true ∧ u16 = true ∧ u17 = true ∧ u18 = true ∧ u19 = true ∧ u20 = true ∧ u21 = true := by
      have h2 := congrArg Array.toList hL
      simpa [List.replicate] using h2
    obtain ⟨rfl, rfl, rfl, rfl, rfl, rfl, rfl, rfl, rfl, rfl, rfl, rfl, rfl, rfl, rfl, rfl, rfl, rfl, rfl, rfl, rfl, rfl⟩ := hl
    exact unhide HQ  re9 im9 rea ima reb imb W kB (kx9 rfl) (kx19 rfl) (kx20 rfl)

set_option maxHeartbeats 4000000 in
set_option maxRecDepth 100000 in
theorem sy8 {s2 s3 s4 s5 s6 s9 s10 s11 s12 s13 s14 s15 s16 s17 s18 s19 s20 s21 s22 s23 s24 s25 s26 s27 s28 s29 s30 s31 s32 s33 s34 s35 s36 s37 s38 s39 s40 s41 s42 s43 s44 s45 s46 s47 s48 s49 s50 s51 s52 s53 s54 : Value} {gl n cl i gg cg q l0 l1 d0 d1 y0 y1 : Nat} {Tm Ta_ Tb : Tn} {V : World} {K_ : Act → World → Prop} (HTA : Hid ((fop .add .f64 (Fv .f64 d0) (Fv .f64 l0), fop .add .f64 (Fv .f64 d1) (Fv .f64 l1)) = Ta_))
    (HC0 : Hid (V.cell? ⟨gl, q, none⟩ = some (.complex .f64 l0 l1))) (HC1 : Hid (V.cell? ⟨gg, i, none⟩ = some (.complex .f64 d0 d1))) 
    (HW2 : Hid (IntKind.i64.wrap ((i : Int) + 1) = (q : Int)))
    (HX3 : Hid (q < n))
    (HF6 : Hid (∀ Xw, Below V.heap.size V Xw → Calls Try.prog 71 #[.complex .f64 l0 l1, .complex .f64 y0 y1] Xw fun e w' => (∃ re6 im6 : Nat, e = .returned (.complex .f64 re6 im6) ∧ tv re6 im6 = Tm) ∧ Below Xw.heap.size Xw w'))
    (HX9 : Hid (i < n))
    (HW13 : Hid (IntKind.i64.wrap ((i : Int) + 1) = (q : Int)))
    (HX14 : Hid (q < n))
    (HF17 : Hid (∀ re6 im6 : Nat, tv re6 im6 = Tm → ∀ rea ima : Nat, tv rea ima = Ta_ → ∀ Xw, Below V.heap.size V Xw → Calls Try.prog 70 #[.complex .f64 re6 im6, .complex .f64 rea ima] Xw fun e w' => (∃ reb imb : Nat, e = .returned (.complex .f64 reb imb) ∧ tv reb imb = Tb) ∧ Below Xw.heap.size Xw w'))
    (hQ : ∀  (re6 im6 : Nat) (rea ima : Nat) (reb imb : Nat) (W1 : World), Below V.heap.size V W1 → tv re6 im6 = Tm → tv rea ima = Ta_ → tv reb imb = Tb → K_ { tmps := #[.slice (some ⟨gl, 0, none⟩) n cl, .slice (some ⟨gg, 0, none⟩) n cg, s2, s3, s4, s5, s6, .complex .f64 reb imb, .int .i64 (i : Int), s9, s10, s11, s12, s13, s14, s15, s16, s17, s18, s19, s20, s21, s22, s23, s24, s25, s26, s27, s28, s29, s30, .slice (some ⟨gl, 0, none⟩) n cl, .int .i64 (i : Int), .int .i64 (q : Int), .pointer (some ⟨gl, q, none⟩), .complex .f64 l0 l1, .complex .f64 y0 y1, .complex .f64 re6 im6, .slice (some ⟨gg, 0, none⟩) n cg, .int .i64 (i : Int), .pointer (some ⟨gg, i, none⟩), .complex .f64 d0 d1, .slice (some ⟨gl, 0, none⟩) n cl, .int .i64 (i : Int), .int .i64 (q : Int), .pointer (some ⟨gl, q, none⟩), .complex .f64 l0 l1, .complex .f64 rea ima, .complex .f64 reb imb, s49, s50, s51, s52, s53, s54], defers := [] } W1) :
    Go.Code.wp Try.prog (rg45 8) (Only K_) { tmps := #[.slice (some ⟨gl, 0, none⟩) n cl, .slice (some ⟨gg, 0, none⟩) n cg, s2, s3, s4, s5, s6, .complex .f64 y0 y1, .int .i64 (i : Int), s9, s10, s11, s12, s13, s14, s15, s16, s17, s18, s19, s20, s21, s22, s23, s24, s25, s26, s27, s28, s29, s30, s31, s32, s33, s34, s35, s36, s37, s38, s39, s40, s41, s42, s43, s44, s45, s46, s47, s48, s49, s50, s51, s52, s53, s54], defers := [] } V := by
  have HQ := hide hQ
  clear hQ
  conv => arg 2; whnf
  refine wp_region_inv2 (fun Lb A W => ∃ (u0 u1 u2 u3 u4 u5 u6 u7 u8 u9 u10 u11 u12 u13 u14 u15 u16 u17 u18 : Bool) (re6 : Nat) (im6 : Nat) (rea : Nat) (ima : Nat) (reb : Nat) (imb : Nat), Lb = #[u0, u1, u2, u3, u4, u5, u6, u7, u8, u9, u10, u11, u12, u13, u14, u15, u16, u17, u18] ∧ A = ({ tmps := #[.slice (some ⟨gl, 0, none⟩) n cl, .slice (some ⟨gg, 0, none⟩) n cg, s2, s3, s4, s5, s6, (bif u18 then .complex .f64 reb imb else .complex .f64 y0 y1), .int .i64 (i : Int), s9, s10, s11, s12, s13, s14, s15, s16, s17, s18, s19, s20, s21, s22, s23, s24, s25, s26, s27, s28, s29, s30, (bif u0 then .slice (some ⟨gl, 0, none⟩) n cl else s31), (bif u1 then .int .i64 (i : Int) else s32), (bif u2 then .int .i64 (q : Int) else s33), (bif u3 then .pointer (some ⟨gl, q, none⟩) else s34), (bif u4 then .complex .f64 l0 l1 else s35), (bif u5 then .complex .f64 y0 y1 else s36), (bif u6 then .complex .f64 re6 im6 else s37), (bif u7 then .slice (some ⟨gg, 0, none⟩) n cg else s38), (bif u8 then .int .i64 (i : Int) else s39), (bif u9 then .pointer (some ⟨gg, i, none⟩) else s40), (bif u10 then .complex .f64 d0 d1 else s41), (bif u11 then .slice (some ⟨gl, 0, none⟩) n cl else s42), (bif u12 then .int .i64 (i : Int) else s43), (bif u13 then .int .i64 (q : Int) else s44), (bif u14 then .pointer (some ⟨gl, q, none⟩) else s45), (bif u15 then .complex .f64 l0 l1 else s46), (bif u16 then .complex .f64 rea ima else s47), (bif u17 then .complex .f64 reb imb else s48), s49, s50, s51, s52, s53, s54], defers := [] } : Act) ∧ Below V.heap.size V W ∧ (u6 = true → tv re6 im6 = Tm) ∧ (u16 = true → tv rea ima = Ta_) ∧ (u17 = true → tv reb imb = Tb) ∧ (u18 = true → u0 = true ∧ u1 = true ∧ u2 = true ∧ u3 = true ∧ u4 = true ∧ u5 = true ∧ u6 = true ∧ u7 = true ∧ u8 = true ∧ u9 = true ∧ u10 = true ∧ u11 = true ∧ u12 = true ∧ u13 = true ∧ u14 = true ∧ u15 = true ∧ u16 = true ∧ u17 = true)) (by kernel_rfl) (by kernel_rfl) ?h0 ?hstep ?hend
  case h0 =>
    exact ⟨false, false, false, false, false, false, false, false, false, false, false, false, false, false, false, false, false, false, false, 0, 0, 0, 0, 0, 0, rfl, rfl, Below.drew (Below.refl _ _), zf, zf, zf, zf⟩
  case hstep =>
    intro Lb A W hI
    obtain ⟨u0, u1, u2, u3, u4, hI⟩ := hI
    obtain ⟨u5, u6, u7, u8, u9, hI⟩ := hI
    obtain ⟨u10, u11, u12, u13, u14, hI⟩ := hI
    obtain ⟨u15, u16, u17, u18, re6, hI⟩ := hI
    obtain ⟨im6, rea, ima, reb, imb, hI⟩ := hI
    obtain ⟨hLb, hI⟩ := hI
    obtain ⟨hA, hI⟩ := hI
    obtain ⟨kB, hI⟩ := hI
    obtain ⟨kx6, hI⟩ := hI
    obtain ⟨kx16, hI⟩ := hI
    obtain ⟨kx17, hI⟩ := hI
    have kF := hI
    clear hI
    subst hLb
    subst hA
    replace kB := hide kB
    replace kx6 := hide kx6
    replace kx16 := hide kx16
    replace kx17 := hide kx17
    replace kF := hide kF
    refine ⟨?_, ?_, ?_, ?_, ?_, ?_, ?_, ?_, ?_, ?_, ?_, ?_, ?_, ?_, ?_, ?_, ?_, ?_, ?_, trivial⟩
    · intro h0 hd K hK
      have z : u0 = false := h0
      have z18_ : u18 = false := znb fun hu => z.symm.trans ((zu kF hu).1)
      subst z18_
      subst z
      clear h0 hd
      rw [if_pos (by rfl)]
      go_simp
      exact unhide hK _ _ ⟨true, u1, u2, u3, u4, u5, u6, u7, u8, u9, u10, u11, u12, u13, u14, u15, u16, u17, false, re6, im6, rea, ima, reb, imb, rfl, rfl, zu kB, zu kx6, zu kx16, zu kx17, zf⟩
    · intro h0 hd K hK
      have z : u1 = false := h0
      have z18_ : u18 = false := znb fun hu => z.symm.trans ((zu kF hu).2.1)
      subst z18_
      subst z
      clear h0 hd
      rw [if_pos (by rfl)]
      go_simp
      exact unhide hK _ _ ⟨u0, true, u2, u3, u4, u5, u6, u7, u8, u9, u10, u11, u12, u13, u14, u15, u16, u17, false, re6, im6, rea, ima, reb, imb, rfl, rfl, zu kB, zu kx6, zu kx16, zu kx17, zf⟩
    · intro h0 hd K hK
      have z : u2 = false := h0
      have z18_ : u18 = false := znb fun hu => z.symm.trans ((zu kF hu).2.2.1)
      have zd : u1 = true := by
        simp [Region.binds] at hd
        simp [hd]
      obtain ⟨rfl⟩ := zd
      subst z18_
      subst z
      clear h0 hd
      rw [if_pos (by rfl)]
      have wq := unhide HW2
      go_simp
      exact unhide hK _ _ ⟨u0, true, true, u3, u4, u5, u6, u7, u8, u9, u10, u11, u12, u13, u14, u15, u16, u17, false, re6, im6, rea, ima, reb, imb, rfl, rfl, zu kB, zu kx6, zu kx16, zu kx17, zf⟩
    · intro h0 hd K hK
      have z : u3 = false := h0
      have z18_ : u18 = false := znb fun hu => z.symm.trans ((zu kF hu).2.2.2.1)
      have zd : u0 = true ∧ u2 = true := by
        simp [Region.binds] at hd
        simp [hd]
      obtain ⟨rfl, rfl⟩ := zd
      subst z18_
      subst z
      clear h0 hd
      rw [if_pos (by rfl)]
      have q1 : q < n := unhide HX3
      have q2 : (q : Int) < (n : Int) := by omega
      go_simp
      exact unhide hK _ _ ⟨true, u1, true, true, u4, u5, u6, u7, u8, u9, u10, u11, u12, u13, u14, u15, u16, u17, false, re6, im6, rea, ima, reb, imb, rfl, rfl, zu kB, zu kx6, zu kx16, zu kx17, zf⟩
    · intro h0 hd K hK
      have z : u4 = false := h0
      have z18_ : u18 = false := znb fun hu => z.symm.trans ((zu kF hu).2.2.2.2.1)
      have zd : u3 = true := by
        simp [Region.binds] at hd
        simp [hd]
      obtain ⟨rfl⟩ := zd
      subst z18_
      subst z
      clear h0 hd
      rw [if_pos (by rfl)]
      have c0 := keep1 (zu kB) (unhide HC0)
      go_simp
      exact unhide hK _ _ ⟨u0, u1, u2, true, true, u5, u6, u7, u8, u9, u10, u11, u12, u13, u14, u15, u16, u17, false, re6, im6, rea, ima, reb, imb, rfl, rfl, zu kB, zu kx6, zu kx16, zu kx17, zf⟩
    · intro h0 hd K hK
      have z : u5 = false := h0
      have z18_ : u18 = false := znb fun hu => z.symm.trans ((zu kF hu).2.2.2.2.2.1)
      subst z18_
      subst z
      clear h0 hd
      rw [if_pos (by rfl)]
      go_simp
      exact unhide hK _ _ ⟨u0, u1, u2, u3, u4, true, u6, u7, u8, u9, u10, u11, u12, u13, u14, u15, u16, u17, false, re6, im6, rea, ima, reb, imb, rfl, rfl, zu kB, zu kx6, zu kx16, zu kx17, zf⟩
    · intro h0 hd K hK
      have z : u6 = false := h0
      have z18_ : u18 = false := znb fun hu => z.symm.trans ((zu kF hu).2.2.2.2.2.2.1)
      have zd : u4 = true ∧ u5 = true := by
        simp [Region.binds] at hd
        simp [hd]
      obtain ⟨rfl, rfl⟩ := zd
      subst z18_
      subst z
      clear h0 hd
      rw [if_pos (by rfl)]
      go_simp
      refine (unhide HF6 W (zu kB)).mono ?_
      rintro e w8 ⟨⟨re6_, im6_, rfl, hr_⟩, hb8⟩
      exact unhide hK _ _ ⟨u0, u1, u2, u3, true, true, true, u7, u8, u9, u10, u11, u12, u13, u14, u15, u16, u17, false, re6_, im6_, rea, ima, reb, imb, rfl, rfl, bc (zu kB) hb8, (fun _ => hr_), zu kx16, zu kx17, zf⟩
    · intro h0 hd K hK
      have z : u7 = false := h0
      have z18_ : u18 = false := znb fun hu => z.symm.trans ((zu kF hu).2.2.2.2.2.2.2.1)
      subst z18_
      subst z
      clear h0 hd
      rw [if_pos (by rfl)]
      go_simp
      exact unhide hK _ _ ⟨u0, u1, u2, u3, u4, u5, u6, true, u8, u9, u10, u11, u12, u13, u14, u15, u16, u17, false, re6, im6, rea, ima, reb, imb, rfl, rfl, zu kB, zu kx6, zu kx16, zu kx17, zf⟩
    · intro h0 hd K hK
      have z : u8 = false := h0
      have z18_ : u18 = false := znb fun hu => z.symm.trans ((zu kF hu).2.2.2.2.2.2.2.2.1)
      subst z18_
      subst z
      clear h0 hd
      rw [if_pos (by rfl)]
      go_simp
      exact unhide hK _ _ ⟨u0, u1, u2, u3, u4, u5, u6, u7, true, u9, u10, u11, u12, u13, u14, u15, u16, u17, false, re6, im6, rea, ima, reb, imb, rfl, rfl, zu kB, zu kx6, zu kx16, zu kx17, zf⟩
    · intro h0 hd K hK
      have z : u9 = false := h0
      have z18_ : u18 = false := znb fun hu => z.symm.trans ((zu kF hu).2.2.2.2.2.2.2.2.2.1)
      have zd : u7 = true ∧ u8 = true := by
        simp [Region.binds] at hd
        simp [hd]
      obtain ⟨rfl, rfl⟩ := zd
      subst z18_
      subst z
      clear h0 hd
      rw [if_pos (by rfl)]
      have q1 : i < n := unhide HX9
      have q2 : (i : Int) < (n : Int) := by omega
      go_simp
      exact unhide hK _ _ ⟨u0, u1, u2, u3, u4, u5, u6, true, true, true, u10, u11, u12, u13, u14, u15, u16, u17, false, re6, im6, rea, ima, reb, imb, rfl, rfl, zu kB, zu kx6, zu kx16, zu kx17, zf⟩
    · intro h0 hd K hK
      have z : u10 = false := h0
      have z18_ : u18 = false := znb fun hu => z.symm.trans ((zu kF hu).2.2.2.2.2.2.2.2.2.2.1)
      have zd : u9 = true := by
        simp [Region.binds] at hd
        simp [hd]
      obtain ⟨rfl⟩ := zd
      subst z18_
      subst z
      clear h0 hd
      rw [if_pos (by rfl)]
      have c0 := keep1 (zu kB) (unhide HC1)
      go_simp
      exact unhide hK _ _ ⟨u0, u1, u2, u3, u4, u5, u6, u7, u8, true, true, u11, u12, u13, u14, u15, u16, u17, false, re6, im6, rea, ima, reb, imb, rfl, rfl, zu kB, zu kx6, zu kx16, zu kx17, zf⟩
    · intro h0 hd K hK
      have z : u11 = false := h0
      have z18_ : u18 = false := znb fun hu => z.symm.trans ((zu kF hu).2.2.2.2.2.2.2.2.2.2.2.1)
      subst z18_
      subst z
      clear h0 hd
      rw [if_pos (by rfl)]
      go_simp
      exact unhide hK _ _ ⟨u0, u1, u2, u3, u4, u5, u6, u7, u8, u9, u10, true, u12, u13, u14, u15, u16, u17, false, re6, im6, rea, ima, reb, imb, rfl, rfl, zu kB, zu kx6, zu kx16, zu kx17, zf⟩
    · intro h0 hd K hK
      have z : u12 = false := h0
      have z18_ : u18 = false := znb fun hu => z.symm.trans ((zu kF hu).2.2.2.2.2.2.2.2.2.2.2.2.1)
      subst z18_
      subst z
      clear h0 hd
      rw [if_pos (by rfl)]
      go_simp
      exact unhide hK _ _ ⟨u0, u1, u2, u3, u4, u5, u6, u7, u8, u9, u10, u11, true, u13, u14, u15, u16, u17, false, re6, im6, rea, ima, reb, imb, rfl, rfl, zu kB, zu kx6, zu kx16, zu kx17, zf⟩
    · intro h0 hd K hK
      have z : u13 = false := h0
      have z18_ : u18 = false := znb fun hu => z.symm.trans ((zu kF hu).2.2.2.2.2.2.2.2.2.2.2.2.2.1)
      have zd : u12 = true := by
        simp [Region.binds] at hd
        simp [hd]
      obtain ⟨rfl⟩ := zd
      subst z18_
      subst z
      clear h0 hd
      rw [if_pos (by rfl)]
      have wq := unhide HW13
      go_simp
      exact unhide hK _ _ ⟨u0, u1, u2, u3, u4, u5, u6, u7, u8, u9, u10, u11, true, true, u14, u15, u16, u17, false, re6, im6, rea, ima, reb, imb, rfl, rfl, zu kB, zu kx6, zu kx16, zu kx17, zf⟩
    · intro h0 hd K hK
      have z : u14 = false := h0
      have z18_ : u18 = false := znb fun hu => z.symm.trans ((zu kF hu).2.2.2.2.2.2.2.2.2.2.2.2.2.2.1)
      have zd : u11 = true ∧ u13 = true := by
        simp [Region.binds] at hd
        simp [hd]
      obtain ⟨rfl, rfl⟩ := zd
      subst z18_
      subst z
      clear h0 hd
      rw [if_pos (by rfl)]
      have q1 : q < n := unhide HX14
      have q2 : (q : Int) < (n : Int) := by omega
      go_simp
      exact unhide hK _ _ ⟨u0, u1, u2, u3, u4, u5, u6, u7, u8, u9, u10, true, u12, true, true, u15, u16, u17, false, re6, im6, rea, ima, reb, imb, rfl, rfl, zu kB, zu kx6, zu kx16, zu kx17, zf⟩
    · intro h0 hd K hK
      have z : u15 = false := h0
      have z18_ : u18 = false := znb fun hu => z.symm.trans ((zu kF hu).2.2.2.2.2.2.2.2.2.2.2.2.2.2.2.1)
      have zd : u14 = true := by
        simp [Region.binds] at hd
        simp [hd]
      obtain ⟨rfl⟩ := zd
      subst z18_
      subst z
      clear h0 hd
      rw [if_pos (by rfl)]
      have c0 := keep1 (zu kB) (unhide HC0)
      go_simp
      exact unhide hK _ _ ⟨u0, u1, u2, u3, u4, u5, u6, u7, u8, u9, u10, u11, u12, u13, true, true, u16, u17, false, re6, im6, rea, ima, reb, imb, rfl, rfl, zu kB, zu kx6, zu kx16, zu kx17, zf⟩
    · intro h0 hd K hK
      have z : u16 = false := h0
      have z18_ : u18 = false := znb fun hu => z.symm.trans ((zu kF hu).2.2.2.2.2.2.2.2.2.2.2.2.2.2.2.2.1)
      have zd : u10 = true ∧ u15 = true := by
        simp [Region.binds] at hd
        simp [hd]
      obtain ⟨rfl, rfl⟩ := zd
      subst z18_
      subst z
      clear h0 hd
      rw [if_pos (by rfl)]
      obtain ⟨rea_, ima_, n_, hrun_, hra_, hrb_⟩ := cadd_run (P := Try.prog) 72 .f64 d0 d1 l0 l1 W
      have hr_ : tv rea_ ima_ = Ta_ := (by unfold tv; rw [hra_, hrb_]; exact unhide HTA)
      clear hra_ hrb_
      go_simp
      exact unhide hK _ _ ⟨u0, u1, u2, u3, u4, u5, u6, u7, u8, u9, true, u11, u12, u13, u14, true, true, u17, false, re6, im6, rea_, ima_, reb, imb, rfl, rfl, bel_dn' (zu kB) _, zu kx6, (fun _ => hr_), zu kx17, zf⟩
    · intro h0 hd K hK
      have z : u17 = false := h0
      have z18_ : u18 = false := znb fun hu => z.symm.trans ((zu kF hu).2.2.2.2.2.2.2.2.2.2.2.2.2.2.2.2.2)
      have zd : u6 = true ∧ u16 = true := by
        simp [Region.binds] at hd
        simp [hd]
      obtain ⟨rfl, rfl⟩ := zd
      subst z18_
      subst z
      clear h0 hd
      rw [if_pos (by rfl)]
      go_simp
      refine (unhide HF17 _ _ (zu kx6 rfl) _ _ (zu kx16 rfl) W (zu kB)).mono ?_
      rintro e w8 ⟨⟨reb_, imb_, rfl, hr_⟩, hb8⟩
      exact unhide hK _ _ ⟨u0, u1, u2, u3, u4, u5, true, u7, u8, u9, u10, u11, u12, u13, u14, u15, true, true, false, re6, im6, rea, ima, reb_, imb_, rfl, rfl, bc (zu kB) hb8, zu kx6, zu kx16, (fun _ => hr_), zf⟩
    · intro h0 hd K hK
      have z : u18 = false := h0
      have zd0 : u0 = true ∧ u1 = true ∧ u2 = true ∧ u3 = true ∧ u4 = true ∧ u5 = true ∧ u6 = true ∧ u7 = true ∧ u8 = true ∧ u9 = true ∧ u10 = true ∧ u11 = true ∧ u12 = true ∧ u13 = true ∧ u14 = true ∧ u15 = true ∧ u16 = true ∧ u17 = true := by
        simp [Region.binds] at hd
        simp [hd]
      have zd : u0 = true ∧ u1 = true ∧ u2 = true ∧ u3 = true ∧ u4 = true ∧ u5 = true ∧ u6 = true ∧ u7 = true ∧ u8 = true ∧ u9 = true ∧ u10 = true ∧ u11 = true ∧ u12 = true ∧ u13 = true ∧ u14 = true ∧ u15 = true ∧ u16 = true ∧ u17 = true := ⟨zd0.1, zd0.2.1, zd0.2.2.1, zd0.2.2.2.1, zd0.2.2.2.2.1, zd0.2.2.2.2.2.1, zd0.2.2.2.2.2.2.1, zd0.2.2.2.2.2.2.2.1, zd0.2.2.2.2.2.2.2.2.1, zd0.2.2.2.2.2.2.2.2.2.1, zd0.2.2.2.2.2.2.2.2.2.2.1, zd0.2.2.2.2.2.2.2.2.2.2.2.1, zd0.2.2.2.2.2.2.2.2.2.2.2.2.1, zd0.2.2.2.2.2.2.2.2.2.2.2.2.2.1, zd0.2.2.2.2.2.2.2.2.2.2.2.2.2.2.1, zd0.2.2.2.2.2.2.2.2.2.2.2.2.2.2.2.1, zd0.2.2.2.2.2.2.2.2.2.2.2.2.2.2.2.2.1, zd0.2.2.2.2.2.2.2.2.2.2.2.2.2.2.2.2.2⟩
      obtain ⟨rfl, rfl, rfl, rfl, rfl, rfl, rfl, rfl, rfl, rfl, rfl, rfl, rfl, rfl, rfl, rfl, rfl, rfl⟩ := zd
      subst z
      clear h0 hd
      rw [if_pos (by rfl)]
      go_simp
      exact unhide hK _ _ ⟨true, true, true, true, true, true, true, true, true, true, true, true, true, true, true, true, true, true, true, re6, im6, rea, ima, reb, imb, rfl, rfl, zu kB, zu kx6, zu kx16, zu kx17, (fun _ => ⟨rfl, rfl, rfl, rfl, rfl, rfl, rfl, rfl, rfl, rfl, rfl, rfl, rfl, rfl, rfl, rfl, rfl, rfl⟩)⟩
  case hend =>
    intro Lb A W hI
    obtain ⟨u0, u1, u2, u3, u4, hI⟩ := hI
    obtain ⟨u5, u6, u7, u8, u9, hI⟩ := hI
    obtain ⟨u10, u11, u12, u13, u14, hI⟩ := hI
    obtain ⟨u15, u16, u17, u18, re6, hI⟩ := hI
    obtain ⟨im6, rea, ima, reb, imb, hI⟩ := hI
    obtain ⟨hLb, hI⟩ := hI
    obtain ⟨hA, hI⟩ := hI
    obtain ⟨kB, hI⟩ := hI
    obtain ⟨kx6, hI⟩ := hI
    obtain ⟨kx16, hI⟩ := hI
    obtain ⟨kx17, hI⟩ := hI
    have kF := hI
    clear hI
    subst hLb
    subst hA
    intro hL
    have hl : u0 = true ∧ u1 = true ∧ u2 = true ∧ u3 = true ∧ u4 = true ∧ u5 = true ∧ u6 = true ∧ u7 = true ∧ u8 = true ∧ u9 = true ∧ u10 = true ∧ u11 = true ∧ u12 = true ∧ u13 = true ∧ u14 = true ∧ u15 = true ∧ u16 = true ∧ u17 = true ∧ u18 = true := by
      have h2 := congrArg Array.toList hL
      simpa [List.replicate] using h2
    obtain ⟨rfl, rfl, rfl, rfl, rfl, rfl, rfl, rfl, rfl, rfl, rfl, rfl, rfl, rfl, rfl, rfl, rfl, rfl, rfl⟩ := hl
    exact unhide HQ  re6 im6 rea ima reb imb W kB (kx6 rfl) (kx16 rfl) (kx17 rfl)

end Go.Proofs.Ytgocgcnpgmamiaa
