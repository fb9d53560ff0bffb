/-
  Statements of the model's search through all ways that draw their order.
-/
import Derived.Test.YtoidhlackoigkaaNbMath
import Derived.Test.YtoidhlackoigkaaInv2
namespace Go.Proofs.Ytoidhlackoigkaa
open Go.ChangeShapes Go.WideShapes Go.ChangeAt Go.RowKit
set_option linter.unusedVariables false
set_option linter.unusedSimpArgs false

noncomputable def rg51 (id : Nat) : Go.Code := match Try.f51.body with | some c => (regOfZ id c).getD .skip | none => .skip
set_option maxHeartbeats 4000000 in
set_option maxRecDepth 100000 in
theorem wy1 {s1 s2 s3 s4 s5 s6 s7 s8 s9 s10 s11 s12 s13 s14 s15 s16 s17 s18 s19 s20 s21 s22 s23 s24 s25 s26 s27 s28 s29 s30 s31 s32 s33 s34 s35 s36 s37 s38 s39 s40 s41 s42 s43 s44 s45 s46 s47 s48 s49 s50 s51 s52 s53 s54 s55 s56 s57 s58 s59 s60 s61 s62 s63 s64 s65 s66 s67 s68 s69 s70 s71 s72 s73 s74 s75 s76 s77 s78 s79 s80 s81 s82 s83 s84 s85 s86 s87 s88 s89 s90 s91 s92 s93 s94 s95 s96 s97 s98 s99 s100 s101 : Value} {sB B nn : Nat} {Wd H : Int} {vP vO vT : Value} {F : List Value} {V : World} {K_ : Act → World → Prop} 
    (HC0 : Hid (V.cell? ⟨sB, 0, none⟩ = some (.int .i64 (Wd)))) (HC1 : Hid (V.cell? ⟨sB, 1, none⟩ = some (vP))) (HC2 : Hid (V.cell? ⟨sB, 2, none⟩ = some (vO))) (HC3 : Hid (V.cell? ⟨sB, 3, none⟩ = some (vT))) 
    (HF16 : Hid (∀ Xw, Below V.heap.size V Xw → Calls Try.prog 26 #[.int .i64 (Wd), vP, vO, vT] Xw fun e w' => (∃ r_, e = .returned (.tuple #[r_, .int .i64 (H)]) ∧ (fun v_ => w'.ownsRow B 61 4 v_ nn F) r_) ∧ Below Xw.heap.size Xw w'))
    (hQ : ∀  (r16 : Value) (W1 : World), Below V.heap.size V W1 → (fun v_ => W1.ownsRow B 61 4 v_ nn F) r16 → K_ { tmps := #[.pointer (some ⟨sB, 0, none⟩), s1, s2, s3, r16, .int .i64 (H), s6, s7, s8, s9, s10, s11, s12, s13, .tuple #[r16, .int .i64 (H)], .pointer (some ⟨sB, 0, none⟩), .pointer (some ⟨sB, 0, none⟩), .pointer (some ⟨sB, 0, none⟩), .int .i64 (Wd), .pointer (some ⟨sB, 0, none⟩), .pointer (some ⟨sB, 0, none⟩), .pointer (some ⟨sB, 1, none⟩), vP, .pointer (some ⟨sB, 0, none⟩), .pointer (some ⟨sB, 0, none⟩), .pointer (some ⟨sB, 2, none⟩), vO, .pointer (some ⟨sB, 0, none⟩), .pointer (some ⟨sB, 0, none⟩), .pointer (some ⟨sB, 3, none⟩), vT, .tuple #[r16, .int .i64 (H)], r16, .int .i64 (H), s34, s35, s36, s37, s38, s39, s40, s41, s42, s43, s44, s45, s46, s47, s48, s49, s50, s51, s52, s53, s54, s55, s56, s57, s58, s59, s60, s61, s62, s63, s64, s65, s66, s67, s68, s69, s70, s71, s72, s73, s74, s75, s76, s77, s78, s79, s80, s81, s82, s83, s84, s85, s86, s87, s88, s89, s90, s91, s92, s93, s94, s95, s96, s97, s98, s99, s100, s101], defers := [] } W1) :
    Go.Code.wp Try.prog (rg51 1) (Only K_) { tmps := #[.pointer (some ⟨sB, 0, none⟩), s1, s2, s3, s4, s5, s6, s7, s8, s9, s10, s11, s12, s13, s14, s15, s16, s17, s18, s19, s20, s21, s22, s23, s24, s25, s26, s27, s28, s29, s30, s31, s32, s33, s34, s35, s36, s37, s38, s39, s40, s41, s42, s43, s44, s45, s46, s47, s48, s49, s50, s51, s52, s53, s54, s55, s56, s57, s58, s59, s60, s61, s62, s63, s64, s65, s66, s67, s68, s69, s70, s71, s72, s73, s74, s75, s76, s77, s78, s79, s80, s81, s82, s83, s84, s85, s86, s87, s88, s89, s90, s91, s92, s93, s94, s95, s96, s97, s98, s99, s100, s101], defers := [] } V := by
  have HQ := hide hQ
  clear hQ
  conv => arg 2; whnf
  refine wp_region_inv2 (fun Lb A W => ∃ (u0 u1 u2 u3 u4 u5 u6 u7 u8 u9 u10 u11 u12 u13 u14 u15 u16 u17 u18 u19 u20 u21 : Bool) (r16 : Value), Lb = #[u0, u1, u2, u3, u4, u5, u6, u7, u8, u9, u10, u11, u12, u13, u14, u15, u16, u17, u18, u19, u20, u21] ∧ A = ({ tmps := #[.pointer (some ⟨sB, 0, none⟩), s1, s2, s3, (bif u20 then r16 else s4), (bif u21 then .int .i64 (H) else s5), s6, s7, s8, s9, s10, s11, s12, s13, (bif u17 then .tuple #[r16, .int .i64 (H)] else s14), (bif u0 then .pointer (some ⟨sB, 0, none⟩) else s15), (bif u1 then .pointer (some ⟨sB, 0, none⟩) else s16), (bif u2 then .pointer (some ⟨sB, 0, none⟩) else s17), (bif u3 then .int .i64 (Wd) else s18), (bif u4 then .pointer (some ⟨sB, 0, none⟩) else s19), (bif u5 then .pointer (some ⟨sB, 0, none⟩) else s20), (bif u6 then .pointer (some ⟨sB, 1, none⟩) else s21), (bif u7 then vP else s22), (bif u8 then .pointer (some ⟨sB, 0, none⟩) else s23), (bif u9 then .pointer (some ⟨sB, 0, none⟩) else s24), (bif u10 then .pointer (some ⟨sB, 2, none⟩) else s25), (bif u11 then vO else s26), (bif u12 then .pointer (some ⟨sB, 0, none⟩) else s27), (bif u13 then .pointer (some ⟨sB, 0, none⟩) else s28), (bif u14 then .pointer (some ⟨sB, 3, none⟩) else s29), (bif u15 then vT else s30), (bif u16 then .tuple #[r16, .int .i64 (H)] else s31), (bif u18 then r16 else s32), (bif u19 then .int .i64 (H) else s33), s34, s35, s36, s37, s38, s39, s40, s41, s42, s43, s44, s45, s46, s47, s48, s49, s50, s51, s52, s53, s54, s55, s56, s57, s58, s59, s60, s61, s62, s63, s64, s65, s66, s67, s68, s69, s70, s71, s72, s73, s74, s75, s76, s77, s78, s79, s80, s81, s82, s83, s84, s85, s86, s87, s88, s89, s90, s91, s92, s93, s94, s95, s96, s97, s98, s99, s100, s101], defers := [] } : Act) ∧ Below V.heap.size V W ∧ (u16 = true → (fun v_ => W.ownsRow B 61 4 v_ nn F) r16) ∧ (u17 = true → u16 = true) ∧ (u18 = true → u17 = true) ∧ (u20 = true → u18 = true) ∧ (u21 = true → u0 = true ∧ u1 = true ∧ u2 = true ∧ u3 = true ∧ u4 = true ∧ u5 = true ∧ u6 = true ∧ u7 = true ∧ u8 = true ∧ u9 = true ∧ u10 = true ∧ u11 = true ∧ u12 = true ∧ u13 = true ∧ u14 = true ∧ u15 = true ∧ u16 = true ∧ u17 = true ∧ u18 = true ∧ u19 = true ∧ u20 = true)) (by kernel_rfl) (by kernel_rfl) ?h0 ?hstep ?hend
  case h0 =>
    exact ⟨false, false, false, false, false, false, false, false, false, false, false, false, false, false, false, false, false, false, false, false, false, false, undef, rfl, rfl, Below.drew (Below.refl _ _), zf, zf, zf, zf, zf⟩
  case hstep =>
    intro Lb A W hI
    obtain ⟨u0, u1, u2, u3, u4, hI⟩ := hI
    obtain ⟨u5, u6, u7, u8, u9, hI⟩ := hI
    obtain ⟨u10, u11, u12, u13, u14, hI⟩ := hI
    obtain ⟨u15, u16, u17, u18, u19, hI⟩ := hI
    obtain ⟨u20, u21, r16, hI⟩ := hI
    obtain ⟨hLb, hI⟩ := hI
    obtain ⟨hA, hI⟩ := hI
    obtain ⟨kB, hI⟩ := hI
    obtain ⟨kx16, hI⟩ := hI
    obtain ⟨l17, hI⟩ := hI
    obtain ⟨l18, hI⟩ := hI
    obtain ⟨l20, hI⟩ := hI
    have kF := hI
    clear hI
    subst hLb
    subst hA
    replace kB := hide kB
    replace kx16 := hide kx16
    replace l17 := hide l17
    replace l18 := hide l18
    replace l20 := hide l20
    replace kF := hide kF
    refine ⟨?_, ?_, ?_, ?_, ?_, ?_, ?_, ?_, ?_, ?_, ?_, ?_, ?_, ?_, ?_, ?_, ?_, ?_, ?_, ?_, ?_, ?_, trivial⟩
    · intro h0 hd K hK
      have z : u0 = false := h0
      have z21_ : u21 = false := znb fun hu => z.symm.trans ((zu kF hu).1)
      subst z21_
      subst z
      clear h0 hd
      rw [if_pos (by rfl)]
      go_simp
      exact unhide hK _ _ ⟨true, u1, u2, u3, u4, u5, u6, u7, u8, u9, u10, u11, u12, u13, u14, u15, u16, u17, u18, u19, u20, false, r16, rfl, rfl, zu kB, zu kx16, zu l17, zu l18, zu l20, zf⟩
    · intro h0 hd K hK
      have z : u1 = false := h0
      have z21_ : u21 = false := znb fun hu => z.symm.trans ((zu kF hu).2.1)
      have zd : u0 = true := by
        simp [Region.binds] at hd
        simp [hd]
      obtain ⟨rfl⟩ := zd
      subst z21_
      subst z
      clear h0 hd
      rw [if_pos (by rfl)]
      go_simp
      exact unhide hK _ _ ⟨true, true, u2, u3, u4, u5, u6, u7, u8, u9, u10, u11, u12, u13, u14, u15, u16, u17, u18, u19, u20, false, r16, rfl, rfl, zu kB, zu kx16, zu l17, zu l18, zu l20, zf⟩
    · intro h0 hd K hK
      have z : u2 = false := h0
      have z21_ : u21 = false := znb fun hu => z.symm.trans ((zu kF hu).2.2.1)
      have zd : u1 = true := by
        simp [Region.binds] at hd
        simp [hd]
      obtain ⟨rfl⟩ := zd
      subst z21_
      subst z
      clear h0 hd
      rw [if_pos (by rfl)]
      go_simp
      exact unhide hK _ _ ⟨u0, true, true, u3, u4, u5, u6, u7, u8, u9, u10, u11, u12, u13, u14, u15, u16, u17, u18, u19, u20, false, r16, rfl, rfl, zu kB, zu kx16, zu l17, zu l18, zu l20, zf⟩
    · intro h0 hd K hK
      have z : u3 = false := h0
      have z21_ : u21 = false := znb fun hu => z.symm.trans ((zu kF hu).2.2.2.1)
      have zd : u2 = true := by
        simp [Region.binds] at hd
        simp [hd]
      obtain ⟨rfl⟩ := zd
      subst z21_
      subst z
      clear h0 hd
      rw [if_pos (by rfl)]
      have c0 := keep1 (zu kB) (unhide HC0)
      go_simp
      exact unhide hK _ _ ⟨u0, u1, true, true, u4, u5, u6, u7, u8, u9, u10, u11, u12, u13, u14, u15, u16, u17, u18, u19, u20, false, r16, rfl, rfl, zu kB, zu kx16, zu l17, zu l18, zu l20, zf⟩
    · intro h0 hd K hK
      have z : u4 = false := h0
      have z21_ : u21 = false := znb fun hu => z.symm.trans ((zu kF hu).2.2.2.2.1)
      subst z21_
      subst z
      clear h0 hd
      rw [if_pos (by rfl)]
      go_simp
      exact unhide hK _ _ ⟨u0, u1, u2, u3, true, u5, u6, u7, u8, u9, u10, u11, u12, u13, u14, u15, u16, u17, u18, u19, u20, false, r16, rfl, rfl, zu kB, zu kx16, zu l17, zu l18, zu l20, zf⟩
    · intro h0 hd K hK
      have z : u5 = false := h0
      have z21_ : u21 = false := znb fun hu => z.symm.trans ((zu kF hu).2.2.2.2.2.1)
      have zd : u4 = true := by
        simp [Region.binds] at hd
        simp [hd]
      obtain ⟨rfl⟩ := zd
      subst z21_
      subst z
      clear h0 hd
      rw [if_pos (by rfl)]
      go_simp
      exact unhide hK _ _ ⟨u0, u1, u2, u3, true, true, u6, u7, u8, u9, u10, u11, u12, u13, u14, u15, u16, u17, u18, u19, u20, false, r16, rfl, rfl, zu kB, zu kx16, zu l17, zu l18, zu l20, zf⟩
    · intro h0 hd K hK
      have z : u6 = false := h0
      have z21_ : u21 = false := znb fun hu => z.symm.trans ((zu kF hu).2.2.2.2.2.2.1)
      have zd : u5 = true := by
        simp [Region.binds] at hd
        simp [hd]
      obtain ⟨rfl⟩ := zd
      subst z21_
      subst z
      clear h0 hd
      rw [if_pos (by rfl)]
      go_simp
      exact unhide hK _ _ ⟨u0, u1, u2, u3, u4, true, true, u7, u8, u9, u10, u11, u12, u13, u14, u15, u16, u17, u18, u19, u20, false, r16, rfl, rfl, zu kB, zu kx16, zu l17, zu l18, zu l20, zf⟩
    · intro h0 hd K hK
      have z : u7 = false := h0
      have z21_ : u21 = false := znb fun hu => z.symm.trans ((zu kF hu).2.2.2.2.2.2.2.1)
      have zd : u6 = true := by
        simp [Region.binds] at hd
        simp [hd]
      obtain ⟨rfl⟩ := zd
      subst z21_
      subst z
      clear h0 hd
      rw [if_pos (by rfl)]
      have c0 := keep1 (zu kB) (unhide HC1)
      go_simp
      exact unhide hK _ _ ⟨u0, u1, u2, u3, u4, u5, true, true, u8, u9, u10, u11, u12, u13, u14, u15, u16, u17, u18, u19, u20, false, r16, rfl, rfl, zu kB, zu kx16, zu l17, zu l18, zu l20, zf⟩
    · intro h0 hd K hK
      have z : u8 = false := h0
      have z21_ : u21 = false := znb fun hu => z.symm.trans ((zu kF hu).2.2.2.2.2.2.2.2.1)
      subst z21_
      subst z
      clear h0 hd
      rw [if_pos (by rfl)]
      go_simp
      exact unhide hK _ _ ⟨u0, u1, u2, u3, u4, u5, u6, u7, true, u9, u10, u11, u12, u13, u14, u15, u16, u17, u18, u19, u20, false, r16, rfl, rfl, zu kB, zu kx16, zu l17, zu l18, zu l20, zf⟩
    · intro h0 hd K hK
      have z : u9 = false := h0
      have z21_ : u21 = false := znb fun hu => z.symm.trans ((zu kF hu).2.2.2.2.2.2.2.2.2.1)
      have zd : u8 = true := by
        simp [Region.binds] at hd
        simp [hd]
      obtain ⟨rfl⟩ := zd
      subst z21_
      subst z
      clear h0 hd
      rw [if_pos (by rfl)]
      go_simp
      exact unhide hK _ _ ⟨u0, u1, u2, u3, u4, u5, u6, u7, true, true, u10, u11, u12, u13, u14, u15, u16, u17, u18, u19, u20, false, r16, rfl, rfl, zu kB, zu kx16, zu l17, zu l18, zu l20, zf⟩
    · intro h0 hd K hK
      have z : u10 = false := h0
      have z21_ : u21 = false := znb fun hu => z.symm.trans ((zu kF hu).2.2.2.2.2.2.2.2.2.2.1)
      have zd : u9 = true := by
        simp [Region.binds] at hd
        simp [hd]
      obtain ⟨rfl⟩ := zd
      subst z21_
      subst z
      clear h0 hd
      rw [if_pos (by rfl)]
      go_simp
      exact unhide hK _ _ ⟨u0, u1, u2, u3, u4, u5, u6, u7, u8, true, true, u11, u12, u13, u14, u15, u16, u17, u18, u19, u20, false, r16, rfl, rfl, zu kB, zu kx16, zu l17, zu l18, zu l20, zf⟩
    · intro h0 hd K hK
      have z : u11 = false := h0
      have z21_ : u21 = false := znb fun hu => z.symm.trans ((zu kF hu).2.2.2.2.2.2.2.2.2.2.2.1)
      have zd : u10 = true := by
        simp [Region.binds] at hd
        simp [hd]
      obtain ⟨rfl⟩ := zd
      subst z21_
      subst z
      clear h0 hd
      rw [if_pos (by rfl)]
      have c0 := keep1 (zu kB) (unhide HC2)
      go_simp
      exact unhide hK _ _ ⟨u0, u1, u2, u3, u4, u5, u6, u7, u8, u9, true, true, u12, u13, u14, u15, u16, u17, u18, u19, u20, false, r16, rfl, rfl, zu kB, zu kx16, zu l17, zu l18, zu l20, zf⟩
    · intro h0 hd K hK
      have z : u12 = false := h0
      have z21_ : u21 = false := znb fun hu => z.symm.trans ((zu kF hu).2.2.2.2.2.2.2.2.2.2.2.2.1)
      subst z21_
      subst z
      clear h0 hd
      rw [if_pos (by rfl)]
      go_simp
      exact unhide hK _ _ ⟨u0, u1, u2, u3, u4, u5, u6, u7, u8, u9, u10, u11, true, u13, u14, u15, u16, u17, u18, u19, u20, false, r16, rfl, rfl, zu kB, zu kx16, zu l17, zu l18, zu l20, zf⟩
    · intro h0 hd K hK
      have z : u13 = false := h0
      have z21_ : u21 = false := znb fun hu => z.symm.trans ((zu kF hu).2.2.2.2.2.2.2.2.2.2.2.2.2.1)
      have zd : u12 = true := by
        simp [Region.binds] at hd
        simp [hd]
      obtain ⟨rfl⟩ := zd
      subst z21_
      subst z
      clear h0 hd
      rw [if_pos (by rfl)]
      go_simp
      exact unhide hK _ _ ⟨u0, u1, u2, u3, u4, u5, u6, u7, u8, u9, u10, u11, true, true, u14, u15, u16, u17, u18, u19, u20, false, r16, rfl, rfl, zu kB, zu kx16, zu l17, zu l18, zu l20, zf⟩
    · intro h0 hd K hK
      have z : u14 = false := h0
      have z21_ : u21 = false := znb fun hu => z.symm.trans ((zu kF hu).2.2.2.2.2.2.2.2.2.2.2.2.2.2.1)
      have zd : u13 = true := by
        simp [Region.binds] at hd
        simp [hd]
      obtain ⟨rfl⟩ := zd
      subst z21_
      subst z
      clear h0 hd
      rw [if_pos (by rfl)]
      go_simp
      exact unhide hK _ _ ⟨u0, u1, u2, u3, u4, u5, u6, u7, u8, u9, u10, u11, u12, true, true, u15, u16, u17, u18, u19, u20, false, r16, rfl, rfl, zu kB, zu kx16, zu l17, zu l18, zu l20, zf⟩
    · intro h0 hd K hK
      have z : u15 = false := h0
      have z21_ : u21 = false := znb fun hu => z.symm.trans ((zu kF hu).2.2.2.2.2.2.2.2.2.2.2.2.2.2.2.1)
      have zd : u14 = true := by
        simp [Region.binds] at hd
        simp [hd]
      obtain ⟨rfl⟩ := zd
      subst z21_
      subst z
      clear h0 hd
      rw [if_pos (by rfl)]
      have c0 := keep1 (zu kB) (unhide HC3)
      go_simp
      exact unhide hK _ _ ⟨u0, u1, u2, u3, u4, u5, u6, u7, u8, u9, u10, u11, u12, u13, true, true, u16, u17, u18, u19, u20, false, r16, rfl, rfl, zu kB, zu kx16, zu l17, zu l18, zu l20, zf⟩
    · intro h0 hd K hK
      have z : u16 = false := h0
      have z21_ : u21 = false := znb fun hu => z.symm.trans ((zu kF hu).2.2.2.2.2.2.2.2.2.2.2.2.2.2.2.2.1)
      have z17_ : u17 = false := znb fun hu => z.symm.trans ((zu l17 hu))
      have z18_ : u18 = false := znb fun hu => z.symm.trans ((zu l17 (zu l18 hu)))
      have z20_ : u20 = false := znb fun hu => z.symm.trans ((zu l17 (zu l18 (zu l20 hu))))
      have zd : u3 = true ∧ u7 = true ∧ u11 = true ∧ u15 = true := by
        simp [Region.binds] at hd
        simp [hd]
      obtain ⟨rfl, rfl, rfl, rfl⟩ := zd
      subst z21_
      subst z17_
      subst z18_
      subst z20_
      subst z
      clear h0 hd
      rw [if_pos (by rfl)]
      go_simp
      refine (unhide HF16 W (zu kB)).mono ?_
      rintro e w8 ⟨⟨r_, rfl, hr_⟩, hb8⟩
      exact unhide hK _ _ ⟨u0, u1, u2, true, u4, u5, u6, true, u8, u9, u10, true, u12, u13, u14, true, true, false, false, u19, false, false, r_, rfl, rfl, bc (zu kB) hb8, (fun _ => hr_), zf, zf, zf, zf⟩
    · intro h0 hd K hK
      have z : u17 = false := h0
      have z21_ : u21 = false := znb fun hu => z.symm.trans ((zu kF hu).2.2.2.2.2.2.2.2.2.2.2.2.2.2.2.2.2.1)
      have zd : u16 = true := by
        simp [Region.binds] at hd
        simp [hd]
      obtain ⟨rfl⟩ := zd
      subst z21_
      subst z
      clear h0 hd
      rw [if_pos (by rfl)]
      go_simp
      exact unhide hK _ _ ⟨u0, u1, u2, u3, u4, u5, u6, u7, u8, u9, u10, u11, u12, u13, u14, u15, true, true, u18, u19, u20, false, r16, rfl, rfl, zu kB, zu kx16, (fun _ => rfl), (fun h => rfl), zu l20, zf⟩
    · intro h0 hd K hK
      have z : u18 = false := h0
      have z21_ : u21 = false := znb fun hu => z.symm.trans ((zu kF hu).2.2.2.2.2.2.2.2.2.2.2.2.2.2.2.2.2.2.1)
      have zd : u17 = true := by
        simp [Region.binds] at hd
        simp [hd]
      obtain ⟨rfl⟩ := zd
      subst z21_
      subst z
      clear h0 hd
      rw [if_pos (by rfl)]
      go_simp
      exact unhide hK _ _ ⟨u0, u1, u2, u3, u4, u5, u6, u7, u8, u9, u10, u11, u12, u13, u14, u15, u16, true, true, u19, u20, false, r16, rfl, rfl, zu kB, zu kx16, zu l17, (fun _ => rfl), (fun h => rfl), zf⟩
    · intro h0 hd K hK
      have z : u19 = false := h0
      have z21_ : u21 = false := znb fun hu => z.symm.trans ((zu kF hu).2.2.2.2.2.2.2.2.2.2.2.2.2.2.2.2.2.2.2.1)
      have zd : u17 = true := by
        simp [Region.binds] at hd
        simp [hd]
      obtain ⟨rfl⟩ := zd
      subst z21_
      subst z
      clear h0 hd
      rw [if_pos (by rfl)]
      go_simp
      exact unhide hK _ _ ⟨u0, u1, u2, u3, u4, u5, u6, u7, u8, u9, u10, u11, u12, u13, u14, u15, u16, true, u18, true, u20, false, r16, rfl, rfl, zu kB, zu kx16, zu l17, (fun h => rfl), zu l20, zf⟩
    · intro h0 hd K hK
      have z : u20 = false := h0
      have z21_ : u21 = false := znb fun hu => z.symm.trans ((zu kF hu).2.2.2.2.2.2.2.2.2.2.2.2.2.2.2.2.2.2.2.2)
      have zd : u18 = true := by
        simp [Region.binds] at hd
        simp [hd]
      obtain ⟨rfl⟩ := zd
      subst z21_
      subst z
      clear h0 hd
      rw [if_pos (by rfl)]
      go_simp
      exact unhide hK _ _ ⟨u0, u1, u2, u3, u4, u5, u6, u7, u8, u9, u10, u11, u12, u13, u14, u15, u16, u17, true, u19, true, false, r16, rfl, rfl, zu kB, zu kx16, zu l17, zu l18, (fun _ => rfl), zf⟩
    · intro h0 hd K hK
      have z : u21 = false := h0
      have zd0 : u0 = true ∧ u1 = true ∧ u2 = true ∧ u3 = true ∧ u4 = true ∧ u5 = true ∧ u6 = true ∧ u7 = true ∧ u8 = true ∧ u9 = true ∧ u10 = true ∧ u11 = true ∧ u12 = true ∧ u13 = true ∧ u14 = true ∧ u15 = true ∧ u16 = true ∧ u17 = true ∧ u18 = true ∧ u19 = true ∧ u20 = true := by
        simp [Region.binds] at hd
        simp [hd]
      have zd : u0 = true ∧ u1 = true ∧ u2 = true ∧ u3 = true ∧ u4 = true ∧ u5 = true ∧ u6 = true ∧ u7 = true ∧ u8 = true ∧ u9 = true ∧ u10 = true ∧ u11 = true ∧ u12 = true ∧ u13 = true ∧ u14 = true ∧ u15 = true ∧ u16 = true ∧ u17 = true ∧ u18 = true ∧ u19 = true ∧ u20 = true := ⟨zd0.1, zd0.2.1, zd0.2.2.1, zd0.2.2.2.1, zd0.2.2.2.2.1, zd0.2.2.2.2.2.1, zd0.2.2.2.2.2.2.1, zd0.2.2.2.2.2.2.2.1, zd0.2.2.2.2.2.2.2.2.1, zd0.2.2.2.2.2.2.2.2.2.1, zd0.2.2.2.2.2.2.2.2.2.2.1, zd0.2.2.2.2.2.2.2.2.2.2.2.1, zd0.2.2.2.2.2.2.2.2.2.2.2.2.1, zd0.2.2.2.2.2.2.2.2.2.2.2.2.2.1, zd0.2.2.2.2.2.2.2.2.2.2.2.2.2.2.1, zd0.2.2.2.2.2.2.2.2.2.2.2.2.2.2.2.1, zd0.2.2.2.2.2.2.2.2.2.2.2.2.2.2.2.2.1, zd0.2.2.2.2.2.2.2.2.2.2.2.2.2.2.2.2.2.1, zd0.2.2.2.2.2.2.2.2.2.2.2.2.2.2.2.2.2.2.1, zd0.2.2.2.2.2.2.2.2.2.2.2.2.2.2.2.2.2.2.2.1, zd0.2.2.2.2.2.2.2.2.2.2.2.2.2.2.2.2.2.2.2.2⟩
      obtain ⟨rfl, rfl, rfl, rfl, rfl, rfl, rfl, rfl, rfl, rfl, rfl, rfl, rfl, rfl, rfl, rfl, rfl, rfl, rfl, rfl, rfl⟩ := zd
      subst z
      clear h0 hd
      rw [if_pos (by rfl)]
      go_simp
      exact unhide hK _ _ ⟨true, true, true, true, true, true, true, true, true, true, true, true, true, true, true, true, true, true, true, true, true, true, r16, rfl, rfl, zu kB, zu kx16, (fun _ => rfl), (fun _ => rfl), (fun _ => rfl), (fun _ => ⟨rfl, rfl, rfl, rfl, rfl, rfl, rfl, rfl, rfl, rfl, rfl, rfl, rfl, rfl, rfl, rfl, rfl, rfl, rfl, rfl, rfl⟩)⟩
  case hend =>
    intro Lb A W hI
    obtain ⟨u0, u1, u2, u3, u4, hI⟩ := hI
    obtain ⟨u5, u6, u7, u8, u9, hI⟩ := hI
    obtain ⟨u10, u11, u12, u13, u14, hI⟩ := hI
    obtain ⟨u15, u16, u17, u18, u19, hI⟩ := hI
    obtain ⟨u20, u21, r16, hI⟩ := hI
    obtain ⟨hLb, hI⟩ := hI
    obtain ⟨hA, hI⟩ := hI
    obtain ⟨kB, hI⟩ := hI
    obtain ⟨kx16, hI⟩ := hI
    obtain ⟨l17, hI⟩ := hI
    obtain ⟨l18, hI⟩ := hI
    obtain ⟨l20, hI⟩ := hI
    have kF := hI
    clear hI
    subst hLb
    subst hA
    intro hL
    have hl : u0 = true ∧ u1 = true ∧ u2 = true ∧ u3 = true ∧ u4 = true ∧ u5 = true ∧ u6 = true ∧ u7 = true ∧ u8 = true ∧ u9 = true ∧ u10 = true ∧ u11 = true ∧ u12 = true ∧ u13 = true ∧ u14 = true ∧ u15 = true ∧ u16 = true ∧ u17 = true ∧ u18 = true ∧ u19 = true ∧ u20 = true ∧ u21 = true := by
      have h2 := congrArg Array.toList hL
      simpa [List.replicate] using h2
    obtain ⟨rfl, rfl, rfl, rfl, rfl, rfl, rfl, rfl, rfl, rfl, rfl, rfl, rfl, rfl, rfl, rfl, rfl, rfl, rfl, rfl, rfl, rfl⟩ := hl
    exact unhide HQ  r16 W kB (kx16 rfl)

set_option maxHeartbeats 4000000 in
set_option maxRecDepth 100000 in
theorem wy5 {s2 s3 s4 s5 s6 s7 s8 s9 s10 s11 s12 s13 s14 s15 s16 s17 s18 s19 s20 s21 s22 s23 s24 s25 s26 s27 s28 s29 s30 s31 s32 s33 s34 s35 s36 s37 s38 s39 s40 s41 s42 s43 s44 s45 s46 s47 s48 s49 s50 s51 s52 s53 s54 s55 s56 s57 s58 s59 s60 s61 s62 s63 s64 s65 s66 s67 s68 s69 s70 s71 s72 s73 s74 s75 s76 s77 s78 s79 s80 s81 s82 s83 s84 s85 s86 s87 s88 s89 s90 s91 s92 s93 s94 s95 s96 s97 s98 s99 s100 s101 : Value} {sB pb ppo np cp ob n co k j : Nat} {pw ph : Int} {V : World} {K_ : Act → World → Prop} 
    (HC1 : Hid (V.cell? ⟨sB, 1, none⟩ = some (.slice (some ⟨pb, ppo, none⟩) np cp))) (HC2 : Hid (V.cell? ⟨sB, 2, none⟩ = some (.slice (some ⟨ob, 0, none⟩) n co))) (HO : Hid (V.cell? ⟨ob, k, none⟩ = some (.int .i64 (j : Int)))) (HP0 : Hid (V.cell? ⟨pb, ppo + j * 2, none⟩ = some (.int .i64 (pw)))) (HP1 : Hid (V.cell? ⟨pb, ppo + j * 2 + 1, none⟩ = some (.int .i64 (ph)))) 
    (HX9 : Hid (k < n))
    (HX11 : Hid (j < np))
    (hQ : ∀ (n13 : Nat)  (W1 : World), Below V.heap.size V W1 → vb W1 n13 31 [.int .i64 (pw), .int .i64 (ph)] → V.heap.size ≤ n13 → K_ { tmps := #[.pointer (some ⟨sB, 0, none⟩), .int .i64 (k : Int), s2, s3, s4, s5, .pointer (some ⟨n13, 0, none⟩), s7, s8, s9, s10, s11, s12, s13, s14, s15, s16, s17, s18, s19, s20, s21, s22, s23, s24, s25, s26, s27, s28, s29, s30, s31, s32, s33, s34, s35, s36, s37, s38, s39, s40, s41, s42, s43, s44, s45, s46, s47, s48, s49, s50, s51, s52, s53, s54, .pointer (some ⟨sB, 0, none⟩), .pointer (some ⟨sB, 0, none⟩), .pointer (some ⟨sB, 1, none⟩), .slice (some ⟨pb, ppo, none⟩) np cp, .pointer (some ⟨sB, 0, none⟩), .pointer (some ⟨sB, 0, none⟩), .pointer (some ⟨sB, 2, none⟩), .slice (some ⟨ob, 0, none⟩) n co, .int .i64 (k : Int), .pointer (some ⟨ob, k, none⟩), .int .i64 (j : Int), .pointer (some ⟨pb, ppo + j * 2, none⟩), .agg #[.int .i64 (pw), .int .i64 (ph)], s68, s69, s70, s71, s72, s73, s74, s75, s76, s77, s78, s79, s80, s81, s82, s83, s84, s85, s86, s87, s88, s89, s90, s91, s92, s93, s94, s95, s96, s97, s98, s99, s100, s101], defers := [] } W1) :
    Go.Code.wp Try.prog (rg51 5) (Only K_) { tmps := #[.pointer (some ⟨sB, 0, none⟩), .int .i64 (k : Int), s2, s3, s4, s5, s6, s7, s8, s9, s10, s11, s12, s13, s14, s15, s16, s17, s18, s19, s20, s21, s22, s23, s24, s25, s26, s27, s28, s29, s30, s31, s32, s33, s34, s35, s36, s37, s38, s39, s40, s41, s42, s43, s44, s45, s46, s47, s48, s49, s50, s51, s52, s53, s54, s55, s56, s57, s58, s59, s60, s61, s62, s63, s64, s65, s66, s67, s68, s69, s70, s71, s72, s73, s74, s75, s76, s77, s78, s79, s80, s81, s82, s83, s84, s85, s86, s87, s88, s89, s90, s91, s92, s93, s94, s95, s96, s97, s98, s99, s100, s101], defers := [] } V := by
  have HQ := hide hQ
  clear hQ
  conv => arg 2; whnf
  refine wp_region_inv2 (fun Lb A W => ∃ (u0 u1 u2 u3 u4 u5 u6 u7 u8 u9 u10 u11 u12 u13 u14 : Bool) (n13 : Nat), Lb = #[u0, u1, u2, u3, u4, u5, u6, u7, u8, u9, u10, u11, u12, u13, u14] ∧ A = ({ tmps := #[.pointer (some ⟨sB, 0, none⟩), .int .i64 (k : Int), s2, s3, s4, s5, (bif u13 then .pointer (some ⟨n13, 0, none⟩) else s6), s7, s8, s9, s10, s11, s12, s13, s14, s15, s16, s17, s18, s19, s20, s21, s22, s23, s24, s25, s26, s27, s28, s29, s30, s31, s32, s33, s34, s35, s36, s37, s38, s39, s40, s41, s42, s43, s44, s45, s46, s47, s48, s49, s50, s51, s52, s53, s54, (bif u0 then .pointer (some ⟨sB, 0, none⟩) else s55), (bif u1 then .pointer (some ⟨sB, 0, none⟩) else s56), (bif u2 then .pointer (some ⟨sB, 1, none⟩) else s57), (bif u3 then .slice (some ⟨pb, ppo, none⟩) np cp else s58), (bif u4 then .pointer (some ⟨sB, 0, none⟩) else s59), (bif u5 then .pointer (some ⟨sB, 0, none⟩) else s60), (bif u6 then .pointer (some ⟨sB, 2, none⟩) else s61), (bif u7 then .slice (some ⟨ob, 0, none⟩) n co else s62), (bif u8 then .int .i64 (k : Int) else s63), (bif u9 then .pointer (some ⟨ob, k, none⟩) else s64), (bif u10 then .int .i64 (j : Int) else s65), (bif u11 then .pointer (some ⟨pb, ppo + j * 2, none⟩) else s66), (bif u12 then .agg #[.int .i64 (pw), .int .i64 (ph)] else s67), s68, s69, s70, s71, s72, s73, s74, s75, s76, s77, s78, s79, s80, s81, s82, s83, s84, s85, s86, s87, s88, s89, s90, s91, s92, s93, s94, s95, s96, s97, s98, s99, s100, s101], defers := [] } : Act) ∧ Below V.heap.size V W ∧ (u13 = true → vb W n13 31 (bif u14 then [.int .i64 (pw), .int .i64 (ph)] else [.int .i64 (0), .int .i64 (0)]) ∧ V.heap.size ≤ n13) ∧ (u14 = true → u0 = true ∧ u1 = true ∧ u2 = true ∧ u3 = true ∧ u4 = true ∧ u5 = true ∧ u6 = true ∧ u7 = true ∧ u8 = true ∧ u9 = true ∧ u10 = true ∧ u11 = true ∧ u12 = true ∧ u13 = true)) (by kernel_rfl) (by kernel_rfl) ?h0 ?hstep ?hend
  case h0 =>
    exact ⟨false, false, false, false, false, false, false, false, false, false, false, false, false, false, false, 0, rfl, rfl, Below.drew (Below.refl _ _), zf, zf⟩
  case hstep =>
    intro Lb A W hI
    obtain ⟨u0, u1, u2, u3, u4, hI⟩ := hI
    obtain ⟨u5, u6, u7, u8, u9, hI⟩ := hI
    obtain ⟨u10, u11, u12, u13, u14, hI⟩ := hI
    obtain ⟨n13, hI⟩ := hI
    obtain ⟨hLb, hI⟩ := hI
    obtain ⟨hA, hI⟩ := hI
    obtain ⟨kB, hI⟩ := hI
    obtain ⟨k13, hI⟩ := hI
    have kF := hI
    clear hI
    subst hLb
    subst hA
    replace kB := hide kB
    replace k13 := hide k13
    replace kF := hide kF
    refine ⟨?_, ?_, ?_, ?_, ?_, ?_, ?_, ?_, ?_, ?_, ?_, ?_, ?_, ?_, ?_, trivial⟩
    · intro h0 hd K hK
      have z : u0 = false := h0
      have z14_ : u14 = false := znb fun hu => z.symm.trans ((zu kF hu).1)
      subst z14_
      subst z
      clear h0 hd
      rw [if_pos (by rfl)]
      go_simp
      exact unhide hK _ _ ⟨true, u1, u2, u3, u4, u5, u6, u7, u8, u9, u10, u11, u12, u13, false, n13, rfl, rfl, zu kB, zu k13, zf⟩
    · intro h0 hd K hK
      have z : u1 = false := h0
      have z14_ : u14 = false := znb fun hu => z.symm.trans ((zu kF hu).2.1)
      have zd : u0 = true := by
        simp [Region.binds] at hd
        simp [hd]
      obtain ⟨rfl⟩ := zd
      subst z14_
      subst z
      clear h0 hd
      rw [if_pos (by rfl)]
      go_simp
      exact unhide hK _ _ ⟨true, true, u2, u3, u4, u5, u6, u7, u8, u9, u10, u11, u12, u13, false, n13, rfl, rfl, zu kB, zu k13, zf⟩
    · intro h0 hd K hK
      have z : u2 = false := h0
      have z14_ : u14 = false := znb fun hu => z.symm.trans ((zu kF hu).2.2.1)
      have zd : u1 = true := by
        simp [Region.binds] at hd
        simp [hd]
      obtain ⟨rfl⟩ := zd
      subst z14_
      subst z
      clear h0 hd
      rw [if_pos (by rfl)]
      go_simp
      exact unhide hK _ _ ⟨u0, true, true, u3, u4, u5, u6, u7, u8, u9, u10, u11, u12, u13, false, n13, rfl, rfl, zu kB, zu k13, zf⟩
    · intro h0 hd K hK
      have z : u3 = false := h0
      have z14_ : u14 = false := znb fun hu => z.symm.trans ((zu kF hu).2.2.2.1)
      have zd : u2 = true := by
        simp [Region.binds] at hd
        simp [hd]
      obtain ⟨rfl⟩ := zd
      subst z14_
      subst z
      clear h0 hd
      rw [if_pos (by rfl)]
      have c0 := keep1 (zu kB) (unhide HC1)
      go_simp
      exact unhide hK _ _ ⟨u0, u1, true, true, u4, u5, u6, u7, u8, u9, u10, u11, u12, u13, false, n13, rfl, rfl, zu kB, zu k13, zf⟩
    · intro h0 hd K hK
      have z : u4 = false := h0
      have z14_ : u14 = false := znb fun hu => z.symm.trans ((zu kF hu).2.2.2.2.1)
      subst z14_
      subst z
      clear h0 hd
      rw [if_pos (by rfl)]
      go_simp
      exact unhide hK _ _ ⟨u0, u1, u2, u3, true, u5, u6, u7, u8, u9, u10, u11, u12, u13, false, n13, rfl, rfl, zu kB, zu k13, zf⟩
    · intro h0 hd K hK
      have z : u5 = false := h0
      have z14_ : u14 = false := znb fun hu => z.symm.trans ((zu kF hu).2.2.2.2.2.1)
      have zd : u4 = true := by
        simp [Region.binds] at hd
        simp [hd]
      obtain ⟨rfl⟩ := zd
      subst z14_
      subst z
      clear h0 hd
      rw [if_pos (by rfl)]
      go_simp
      exact unhide hK _ _ ⟨u0, u1, u2, u3, true, true, u6, u7, u8, u9, u10, u11, u12, u13, false, n13, rfl, rfl, zu kB, zu k13, zf⟩
    · intro h0 hd K hK
      have z : u6 = false := h0
      have z14_ : u14 = false := znb fun hu => z.symm.trans ((zu kF hu).2.2.2.2.2.2.1)
      have zd : u5 = true := by
        simp [Region.binds] at hd
        simp [hd]
      obtain ⟨rfl⟩ := zd
      subst z14_
      subst z
      clear h0 hd
      rw [if_pos (by rfl)]
      go_simp
      exact unhide hK _ _ ⟨u0, u1, u2, u3, u4, true, true, u7, u8, u9, u10, u11, u12, u13, false, n13, rfl, rfl, zu kB, zu k13, zf⟩
    · intro h0 hd K hK
      have z : u7 = false := h0
      have z14_ : u14 = false := znb fun hu => z.symm.trans ((zu kF hu).2.2.2.2.2.2.2.1)
      have zd : u6 = true := by
        simp [Region.binds] at hd
        simp [hd]
      obtain ⟨rfl⟩ := zd
      subst z14_
      subst z
      clear h0 hd
      rw [if_pos (by rfl)]
      have c0 := keep1 (zu kB) (unhide HC2)
      go_simp
      exact unhide hK _ _ ⟨u0, u1, u2, u3, u4, u5, true, true, u8, u9, u10, u11, u12, u13, false, n13, rfl, rfl, zu kB, zu k13, zf⟩
    · intro h0 hd K hK
      have z : u8 = false := h0
      have z14_ : u14 = false := znb fun hu => z.symm.trans ((zu kF hu).2.2.2.2.2.2.2.2.1)
      subst z14_
      subst z
      clear h0 hd
      rw [if_pos (by rfl)]
      go_simp
      exact unhide hK _ _ ⟨u0, u1, u2, u3, u4, u5, u6, u7, true, u9, u10, u11, u12, u13, false, n13, rfl, rfl, zu kB, zu k13, zf⟩
    · intro h0 hd K hK
      have z : u9 = false := h0
      have z14_ : u14 = false := znb fun hu => z.symm.trans ((zu kF hu).2.2.2.2.2.2.2.2.2.1)
      have zd : u7 = true ∧ u8 = true := by
        simp [Region.binds] at hd
        simp [hd]
      obtain ⟨rfl, rfl⟩ := zd
      subst z14_
      subst z
      clear h0 hd
      rw [if_pos (by rfl)]
      have q1 : k < n := unhide HX9
      have q2 : (k : Int) < (n : Int) := by omega
      go_simp
      exact unhide hK _ _ ⟨u0, u1, u2, u3, u4, u5, u6, true, true, true, u10, u11, u12, u13, false, n13, rfl, rfl, zu kB, zu k13, zf⟩
    · intro h0 hd K hK
      have z : u10 = false := h0
      have z14_ : u14 = false := znb fun hu => z.symm.trans ((zu kF hu).2.2.2.2.2.2.2.2.2.2.1)
      have zd : u9 = true := by
        simp [Region.binds] at hd
        simp [hd]
      obtain ⟨rfl⟩ := zd
      subst z14_
      subst z
      clear h0 hd
      rw [if_pos (by rfl)]
      have c0 := keep1 (zu kB) (unhide HO)
      go_simp
      exact unhide hK _ _ ⟨u0, u1, u2, u3, u4, u5, u6, u7, u8, true, true, u11, u12, u13, false, n13, rfl, rfl, zu kB, zu k13, zf⟩
    · intro h0 hd K hK
      have z : u11 = false := h0
      have z14_ : u14 = false := znb fun hu => z.symm.trans ((zu kF hu).2.2.2.2.2.2.2.2.2.2.2.1)
      have zd : u3 = true ∧ u10 = true := by
        simp [Region.binds] at hd
        simp [hd]
      obtain ⟨rfl, rfl⟩ := zd
      subst z14_
      subst z
      clear h0 hd
      rw [if_pos (by rfl)]
      have q1 : j < np := unhide HX11
      have q2 : (j : Int) < (np : Int) := by omega
      go_simp
      exact unhide hK _ _ ⟨u0, u1, u2, true, u4, u5, u6, u7, u8, u9, true, true, u12, u13, false, n13, rfl, rfl, zu kB, zu k13, zf⟩
    · intro h0 hd K hK
      have z : u12 = false := h0
      have z14_ : u14 = false := znb fun hu => z.symm.trans ((zu kF hu).2.2.2.2.2.2.2.2.2.2.2.2.1)
      have zd : u11 = true := by
        simp [Region.binds] at hd
        simp [hd]
      obtain ⟨rfl⟩ := zd
      subst z14_
      subst z
      clear h0 hd
      rw [if_pos (by rfl)]
      have c0 := keep1 (zu kB) (unhide HP0)
      have c1 := keep1 (zu kB) (unhide HP1)
      go_simp
      exact unhide hK _ _ ⟨u0, u1, u2, u3, u4, u5, u6, u7, u8, u9, u10, true, true, u13, false, n13, rfl, rfl, zu kB, zu k13, zf⟩
    · intro h0 hd K hK
      have z : u13 = false := h0
      have z14_ : u14 = false := znb fun hu => z.symm.trans ((zu kF hu).2.2.2.2.2.2.2.2.2.2.2.2.2)
      subst z14_
      subst z
      clear h0 hd
      rw [if_pos (by rfl)]
      go_simp
      exact unhide hK _ _ ⟨u0, u1, u2, u3, u4, u5, u6, u7, u8, u9, u10, u11, u12, true, false, W.heap.size, rfl, rfl, ba (zu kB) _, (fun _ => ⟨vb_new W 31 _ _ rfl, (zu kB).size⟩), zf⟩
    · intro h0 hd K hK
      have z : u14 = false := h0
      have zd0 : u0 = true ∧ u1 = true ∧ u2 = true ∧ u3 = true ∧ u4 = true ∧ u5 = true ∧ u6 = true ∧ u7 = true ∧ u8 = true ∧ u9 = true ∧ u10 = true ∧ u11 = true ∧ u12 = true ∧ u13 = true := by
        simp [Region.binds] at hd
        simp [hd]
      have zd : u0 = true ∧ u1 = true ∧ u2 = true ∧ u3 = true ∧ u4 = true ∧ u5 = true ∧ u6 = true ∧ u7 = true ∧ u8 = true ∧ u9 = true ∧ u10 = true ∧ u11 = true ∧ u12 = true ∧ u13 = true := ⟨zd0.1, zd0.2.1, zd0.2.2.1, zd0.2.2.2.1, zd0.2.2.2.2.1, zd0.2.2.2.2.2.1, zd0.2.2.2.2.2.2.1, zd0.2.2.2.2.2.2.2.1, zd0.2.2.2.2.2.2.2.2.1, zd0.2.2.2.2.2.2.2.2.2.1, zd0.2.2.2.2.2.2.2.2.2.2.1, zd0.2.2.2.2.2.2.2.2.2.2.2.1, zd0.2.2.2.2.2.2.2.2.2.2.2.2.1, zd0.2.2.2.2.2.2.2.2.2.2.2.2.2⟩
      obtain ⟨rfl, rfl, rfl, rfl, rfl, rfl, rfl, rfl, rfl, rfl, rfl, rfl, rfl, rfl⟩ := zd
      subst z
      clear h0 hd
      rw [if_pos (by rfl)]
      have v1 := (zu k13 rfl).1
      have g9 := (zu k13 rfl).2
      have fz := v1.frozen
      have q0 := v1.cell (m := 0) rfl
      have q1 := v1.cell (m := 1) rfl
      have HV1 := hide v1
      clear v1
      go_simp
      exact unhide hK _ _ ⟨true, true, true, true, true, true, true, true, true, true, true, true, true, true, true, n13, rfl, rfl, (((((zu kB)).setCell (p := ⟨n13, 0, none⟩) g9 _)).setCell (p := ⟨n13, 1, none⟩) g9 _), (fun _ => ⟨(((unhide HV1).set 0 _).set 1 _), g9⟩), (fun _ => ⟨rfl, rfl, rfl, rfl, rfl, rfl, rfl, rfl, rfl, rfl, rfl, rfl, rfl, rfl⟩)⟩
  case hend =>
    intro Lb A W hI
    obtain ⟨u0, u1, u2, u3, u4, hI⟩ := hI
    obtain ⟨u5, u6, u7, u8, u9, hI⟩ := hI
    obtain ⟨u10, u11, u12, u13, u14, hI⟩ := hI
    obtain ⟨n13, hI⟩ := hI
    obtain ⟨hLb, hI⟩ := hI
    obtain ⟨hA, hI⟩ := hI
    obtain ⟨kB, hI⟩ := hI
    obtain ⟨k13, hI⟩ := hI
    have kF := hI
    clear hI
    subst hLb
    subst hA
    intro hL
    have hl : u0 = true ∧ u1 = true ∧ u2 = true ∧ u3 = true ∧ u4 = true ∧ u5 = true ∧ u6 = true ∧ u7 = true ∧ u8 = true ∧ u9 = true ∧ u10 = true ∧ u11 = true ∧ u12 = true ∧ u13 = true ∧ u14 = true := by
      have h2 := congrArg Array.toList hL
      simpa [List.replicate] using h2
    obtain ⟨rfl, rfl, rfl, rfl, rfl, rfl, rfl, rfl, rfl, rfl, rfl, rfl, rfl, rfl, rfl⟩ := hl
    exact unhide HQ n13  W kB (k13 rfl).1 (k13 rfl).2

set_option maxHeartbeats 4000000 in
set_option maxRecDepth 100000 in
theorem wy6 {s1 s2 s3 s4 s5 s7 s8 s9 s10 s11 s12 s13 s14 s15 s16 s17 s18 s19 s20 s21 s22 s23 s24 s25 s26 s27 s28 s29 s30 s31 s32 s33 s34 s35 s36 s37 s38 s39 s40 s41 s42 s43 s44 s45 s46 s47 s48 s49 s50 s51 s52 s53 s54 s55 s56 s57 s58 s59 s60 s61 s62 s63 s64 s65 s66 s67 s68 s69 s70 s71 s72 s73 s74 s75 s76 s77 s78 s79 s80 s81 s82 s83 s84 s85 s86 s87 s88 s89 s90 s91 s92 s93 s94 s95 s96 s97 s98 s99 s100 s101 : Value} {sB g : Nat} {Wd pw : Int} {V : World} {K_ : Act → World → Prop} 
    (HC0 : Hid (V.cell? ⟨sB, 0, none⟩ = some (.int .i64 (Wd)))) (HG0 : Hid (V.cell? ⟨g, 0, none⟩ = some (.int .i64 (pw)))) 
    
    (hQ : ∀  (W1 : World), Below V.heap.size V W1 → K_ { tmps := #[.pointer (some ⟨sB, 0, none⟩), s1, s2, s3, s4, s5, .pointer (some ⟨g, 0, none⟩), s7, s8, s9, s10, s11, s12, s13, s14, s15, s16, s17, s18, s19, s20, s21, s22, s23, s24, s25, s26, s27, s28, s29, s30, s31, s32, s33, s34, s35, s36, s37, s38, s39, s40, s41, s42, s43, s44, s45, s46, s47, s48, s49, s50, s51, s52, s53, s54, s55, s56, s57, s58, s59, s60, s61, s62, s63, s64, s65, s66, s67, .pointer (some ⟨g, 0, none⟩), .int .i64 (pw), .pointer (some ⟨sB, 0, none⟩), .pointer (some ⟨sB, 0, none⟩), .pointer (some ⟨sB, 0, none⟩), .int .i64 (Wd), .bool (decide (pw ≤ Wd)), s75, s76, s77, s78, s79, s80, s81, s82, s83, s84, s85, s86, s87, s88, s89, s90, s91, s92, s93, s94, s95, s96, s97, s98, s99, s100, s101], defers := [] } W1) :
    Go.Code.wp Try.prog (rg51 6) (Only K_) { tmps := #[.pointer (some ⟨sB, 0, none⟩), s1, s2, s3, s4, s5, .pointer (some ⟨g, 0, none⟩), s7, s8, s9, s10, s11, s12, s13, s14, s15, s16, s17, s18, s19, s20, s21, s22, s23, s24, s25, s26, s27, s28, s29, s30, s31, s32, s33, s34, s35, s36, s37, s38, s39, s40, s41, s42, s43, s44, s45, s46, s47, s48, s49, s50, s51, s52, s53, s54, s55, s56, s57, s58, s59, s60, s61, s62, s63, s64, s65, s66, s67, s68, s69, s70, s71, s72, s73, s74, s75, s76, s77, s78, s79, s80, s81, s82, s83, s84, s85, s86, s87, s88, s89, s90, s91, s92, s93, s94, s95, s96, s97, s98, s99, s100, s101], defers := [] } V := by
  have HQ := hide hQ
  clear hQ
  conv => arg 2; whnf
  refine wp_region_inv2 (fun Lb A W => ∃ (u0 u1 u2 u3 u4 u5 u6 : Bool) (dm : Nat), Lb = #[u0, u1, u2, u3, u4, u5, u6] ∧ A = ({ tmps := #[.pointer (some ⟨sB, 0, none⟩), s1, s2, s3, s4, s5, .pointer (some ⟨g, 0, none⟩), s7, s8, s9, s10, s11, s12, s13, s14, s15, s16, s17, s18, s19, s20, s21, s22, s23, s24, s25, s26, s27, s28, s29, s30, s31, s32, s33, s34, s35, s36, s37, s38, s39, s40, s41, s42, s43, s44, s45, s46, s47, s48, s49, s50, s51, s52, s53, s54, s55, s56, s57, s58, s59, s60, s61, s62, s63, s64, s65, s66, s67, (bif u0 then .pointer (some ⟨g, 0, none⟩) else s68), (bif u1 then .int .i64 (pw) else s69), (bif u2 then .pointer (some ⟨sB, 0, none⟩) else s70), (bif u3 then .pointer (some ⟨sB, 0, none⟩) else s71), (bif u4 then .pointer (some ⟨sB, 0, none⟩) else s72), (bif u5 then .int .i64 (Wd) else s73), (bif u6 then .bool (decide (pw ≤ Wd)) else s74), s75, s76, s77, s78, s79, s80, s81, s82, s83, s84, s85, s86, s87, s88, s89, s90, s91, s92, s93, s94, s95, s96, s97, s98, s99, s100, s101], defers := [] } : Act) ∧ Below V.heap.size V W ∧ (u1 = true → u0 = true) ∧ (u3 = true → u2 = true) ∧ (u4 = true → u3 = true) ∧ (u5 = true → u4 = true) ∧ (u6 = true → u0 = true ∧ u1 = true ∧ u2 = true ∧ u3 = true ∧ u4 = true ∧ u5 = true)) (by kernel_rfl) (by kernel_rfl) ?h0 ?hstep ?hend
  case h0 =>
    exact ⟨false, false, false, false, false, false, false, 0, rfl, rfl, Below.drew (Below.refl _ _), zf, zf, zf, zf, zf⟩
  case hstep =>
    intro Lb A W hI
    obtain ⟨u0, u1, u2, u3, u4, hI⟩ := hI
    obtain ⟨u5, u6, dm, hI⟩ := hI
    obtain ⟨hLb, hI⟩ := hI
    obtain ⟨hA, hI⟩ := hI
    obtain ⟨kB, hI⟩ := hI
    obtain ⟨l1, hI⟩ := hI
    obtain ⟨l3, hI⟩ := hI
    obtain ⟨l4, hI⟩ := hI
    obtain ⟨l5, hI⟩ := hI
    have kF := hI
    clear hI
    subst hLb
    subst hA
    replace kB := hide kB
    replace l1 := hide l1
    replace l3 := hide l3
    replace l4 := hide l4
    replace l5 := hide l5
    replace kF := hide kF
    refine ⟨?_, ?_, ?_, ?_, ?_, ?_, ?_, trivial⟩
    · intro h0 hd K hK
      have z : u0 = false := h0
      have z6_ : u6 = false := znb fun hu => z.symm.trans ((zu kF hu).1)
      subst z6_
      subst z
      clear h0 hd
      rw [if_pos (by rfl)]
      go_simp
      exact unhide hK _ _ ⟨true, u1, u2, u3, u4, u5, false, dm, rfl, rfl, zu kB, (fun h => rfl), zu l3, zu l4, zu l5, zf⟩
    · intro h0 hd K hK
      have z : u1 = false := h0
      have z6_ : u6 = false := znb fun hu => z.symm.trans ((zu kF hu).2.1)
      have zd : u0 = true := by
        simp [Region.binds] at hd
        simp [hd]
      obtain ⟨rfl⟩ := zd
      subst z6_
      subst z
      clear h0 hd
      rw [if_pos (by rfl)]
      have c0 := keep1 (zu kB) (unhide HG0)
      go_simp
      exact unhide hK _ _ ⟨true, true, u2, u3, u4, u5, false, dm, rfl, rfl, zu kB, (fun _ => rfl), zu l3, zu l4, zu l5, zf⟩
    · intro h0 hd K hK
      have z : u2 = false := h0
      have z6_ : u6 = false := znb fun hu => z.symm.trans ((zu kF hu).2.2.1)
      subst z6_
      subst z
      clear h0 hd
      rw [if_pos (by rfl)]
      go_simp
      exact unhide hK _ _ ⟨u0, u1, true, u3, u4, u5, false, dm, rfl, rfl, zu kB, zu l1, (fun h => rfl), zu l4, zu l5, zf⟩
    · intro h0 hd K hK
      have z : u3 = false := h0
      have z6_ : u6 = false := znb fun hu => z.symm.trans ((zu kF hu).2.2.2.1)
      have zd : u2 = true := by
        simp [Region.binds] at hd
        simp [hd]
      obtain ⟨rfl⟩ := zd
      subst z6_
      subst z
      clear h0 hd
      rw [if_pos (by rfl)]
      go_simp
      exact unhide hK _ _ ⟨u0, u1, true, true, u4, u5, false, dm, rfl, rfl, zu kB, zu l1, (fun _ => rfl), (fun h => rfl), zu l5, zf⟩
    · intro h0 hd K hK
      have z : u4 = false := h0
      have z6_ : u6 = false := znb fun hu => z.symm.trans ((zu kF hu).2.2.2.2.1)
      have zd : u3 = true := by
        simp [Region.binds] at hd
        simp [hd]
      obtain ⟨rfl⟩ := zd
      subst z6_
      subst z
      clear h0 hd
      rw [if_pos (by rfl)]
      go_simp
      exact unhide hK _ _ ⟨u0, u1, u2, true, true, u5, false, dm, rfl, rfl, zu kB, zu l1, zu l3, (fun _ => rfl), (fun h => rfl), zf⟩
    · intro h0 hd K hK
      have z : u5 = false := h0
      have z6_ : u6 = false := znb fun hu => z.symm.trans ((zu kF hu).2.2.2.2.2)
      have zd : u4 = true := by
        simp [Region.binds] at hd
        simp [hd]
      obtain ⟨rfl⟩ := zd
      subst z6_
      subst z
      clear h0 hd
      rw [if_pos (by rfl)]
      have c0 := keep1 (zu kB) (unhide HC0)
      go_simp
      exact unhide hK _ _ ⟨u0, u1, u2, u3, true, true, false, dm, rfl, rfl, zu kB, zu l1, zu l3, zu l4, (fun _ => rfl), zf⟩
    · intro h0 hd K hK
      have z : u6 = false := h0
      have zd0 : u1 = true ∧ u5 = true := by
        simp [Region.binds] at hd
        simp [hd]
      have zd : u1 = true ∧ u5 = true ∧ u0 = true ∧ u2 = true ∧ u3 = true ∧ u4 = true := ⟨zd0.1, zd0.2, (zu l1 zd0.1), (zu l3 (zu l4 (zu l5 zd0.2))), (zu l4 (zu l5 zd0.2)), (zu l5 zd0.2)⟩
      obtain ⟨rfl, rfl, rfl, rfl, rfl, rfl⟩ := zd
      subst z
      clear h0 hd
      rw [if_pos (by rfl)]
      go_simp
      exact unhide hK _ _ ⟨true, true, true, true, true, true, true, dm, rfl, rfl, zu kB, (fun _ => rfl), (fun _ => rfl), (fun _ => rfl), (fun _ => rfl), (fun _ => ⟨rfl, rfl, rfl, rfl, rfl, rfl⟩)⟩
  case hend =>
    intro Lb A W hI
    obtain ⟨u0, u1, u2, u3, u4, hI⟩ := hI
    obtain ⟨u5, u6, dm, hI⟩ := hI
    obtain ⟨hLb, hI⟩ := hI
    obtain ⟨hA, hI⟩ := hI
    obtain ⟨kB, hI⟩ := hI
    obtain ⟨l1, hI⟩ := hI
    obtain ⟨l3, hI⟩ := hI
    obtain ⟨l4, hI⟩ := hI
    obtain ⟨l5, hI⟩ := hI
    have kF := hI
    clear hI
    subst hLb
    subst hA
    intro hL
    have hl : u0 = true ∧ u1 = true ∧ u2 = true ∧ u3 = true ∧ u4 = true ∧ u5 = true ∧ u6 = true := by
      have h2 := congrArg Array.toList hL
      simpa [List.replicate] using h2
    obtain ⟨rfl, rfl, rfl, rfl, rfl, rfl, rfl⟩ := hl
    exact unhide HQ   W kB

set_option maxHeartbeats 4000000 in
set_option maxRecDepth 100000 in
theorem wy9 {s1 s2 s3 s4 s5 s7 s8 s9 s10 s11 s12 s13 s14 s15 s16 s17 s18 s19 s20 s21 s22 s23 s24 s25 s26 s27 s28 s29 s30 s31 s32 s33 s34 s35 s36 s37 s38 s39 s40 s41 s42 s43 s44 s45 s46 s47 s48 s49 s50 s51 s52 s53 s54 s55 s56 s57 s58 s59 s60 s61 s62 s63 s64 s65 s66 s67 s68 s69 s70 s71 s72 s73 s74 s75 s76 s77 s78 s79 s80 s81 s82 s83 s84 s85 s86 s87 s88 s89 s90 s91 s92 s93 s94 s95 s96 s97 s98 s99 s100 s101 : Value} {sB g : Nat} {Wd ph : Int} {V : World} {K_ : Act → World → Prop} 
    (HC0 : Hid (V.cell? ⟨sB, 0, none⟩ = some (.int .i64 (Wd)))) (HG1 : Hid (V.cell? ⟨g, 1, none⟩ = some (.int .i64 (ph)))) 
    
    (hQ : ∀  (W1 : World), Below V.heap.size V W1 → K_ { tmps := #[.pointer (some ⟨sB, 0, none⟩), s1, s2, s3, s4, s5, .pointer (some ⟨g, 0, none⟩), s7, s8, s9, s10, s11, s12, s13, s14, s15, s16, s17, s18, s19, s20, s21, s22, s23, s24, s25, s26, s27, s28, s29, s30, s31, s32, s33, s34, s35, s36, s37, s38, s39, s40, s41, s42, s43, s44, s45, s46, s47, s48, s49, s50, s51, s52, s53, s54, s55, s56, s57, s58, s59, s60, s61, s62, s63, s64, s65, s66, s67, s68, s69, s70, s71, s72, s73, s74, s75, s76, s77, s78, s79, s80, s81, s82, s83, s84, .pointer (some ⟨g, 1, none⟩), .int .i64 (ph), .pointer (some ⟨sB, 0, none⟩), .pointer (some ⟨sB, 0, none⟩), .pointer (some ⟨sB, 0, none⟩), .int .i64 (Wd), .bool (decide (ph ≤ Wd)), s92, s93, s94, s95, s96, s97, s98, s99, s100, s101], defers := [] } W1) :
    Go.Code.wp Try.prog (rg51 9) (Only K_) { tmps := #[.pointer (some ⟨sB, 0, none⟩), s1, s2, s3, s4, s5, .pointer (some ⟨g, 0, none⟩), s7, s8, s9, s10, s11, s12, s13, s14, s15, s16, s17, s18, s19, s20, s21, s22, s23, s24, s25, s26, s27, s28, s29, s30, s31, s32, s33, s34, s35, s36, s37, s38, s39, s40, s41, s42, s43, s44, s45, s46, s47, s48, s49, s50, s51, s52, s53, s54, s55, s56, s57, s58, s59, s60, s61, s62, s63, s64, s65, s66, s67, s68, s69, s70, s71, s72, s73, s74, s75, s76, s77, s78, s79, s80, s81, s82, s83, s84, s85, s86, s87, s88, s89, s90, s91, s92, s93, s94, s95, s96, s97, s98, s99, s100, s101], defers := [] } V := by
  have HQ := hide hQ
  clear hQ
  conv => arg 2; whnf
  refine wp_region_inv2 (fun Lb A W => ∃ (u0 u1 u2 u3 u4 u5 u6 : Bool) (dm : Nat), Lb = #[u0, u1, u2, u3, u4, u5, u6] ∧ A = ({ tmps := #[.pointer (some ⟨sB, 0, none⟩), s1, s2, s3, s4, s5, .pointer (some ⟨g, 0, none⟩), s7, s8, s9, s10, s11, s12, s13, s14, s15, s16, s17, s18, s19, s20, s21, s22, s23, s24, s25, s26, s27, s28, s29, s30, s31, s32, s33, s34, s35, s36, s37, s38, s39, s40, s41, s42, s43, s44, s45, s46, s47, s48, s49, s50, s51, s52, s53, s54, s55, s56, s57, s58, s59, s60, s61, s62, s63, s64, s65, s66, s67, s68, s69, s70, s71, s72, s73, s74, s75, s76, s77, s78, s79, s80, s81, s82, s83, s84, (bif u0 then .pointer (some ⟨g, 1, none⟩) else s85), (bif u1 then .int .i64 (ph) else s86), (bif u2 then .pointer (some ⟨sB, 0, none⟩) else s87), (bif u3 then .pointer (some ⟨sB, 0, none⟩) else s88), (bif u4 then .pointer (some ⟨sB, 0, none⟩) else s89), (bif u5 then .int .i64 (Wd) else s90), (bif u6 then .bool (decide (ph ≤ Wd)) else s91), s92, s93, s94, s95, s96, s97, s98, s99, s100, s101], defers := [] } : Act) ∧ Below V.heap.size V W ∧ (u1 = true → u0 = true) ∧ (u3 = true → u2 = true) ∧ (u4 = true → u3 = true) ∧ (u5 = true → u4 = true) ∧ (u6 = true → u0 = true ∧ u1 = true ∧ u2 = true ∧ u3 = true ∧ u4 = true ∧ u5 = true)) (by kernel_rfl) (by kernel_rfl) ?h0 ?hstep ?hend
  case h0 =>
    exact ⟨false, false, false, false, false, false, false, 0, rfl, rfl, Below.drew (Below.refl _ _), zf, zf, zf, zf, zf⟩
  case hstep =>
    intro Lb A W hI
    obtain ⟨u0, u1, u2, u3, u4, hI⟩ := hI
    obtain ⟨u5, u6, dm, hI⟩ := hI
    obtain ⟨hLb, hI⟩ := hI
    obtain ⟨hA, hI⟩ := hI
    obtain ⟨kB, hI⟩ := hI
    obtain ⟨l1, hI⟩ := hI
    obtain ⟨l3, hI⟩ := hI
    obtain ⟨l4, hI⟩ := hI
    obtain ⟨l5, hI⟩ := hI
    have kF := hI
    clear hI
    subst hLb
    subst hA
    replace kB := hide kB
    replace l1 := hide l1
    replace l3 := hide l3
    replace l4 := hide l4
    replace l5 := hide l5
    replace kF := hide kF
    refine ⟨?_, ?_, ?_, ?_, ?_, ?_, ?_, trivial⟩
    · intro h0 hd K hK
      have z : u0 = false := h0
      have z6_ : u6 = false := znb fun hu => z.symm.trans ((zu kF hu).1)
      subst z6_
      subst z
      clear h0 hd
      rw [if_pos (by rfl)]
      go_simp
      exact unhide hK _ _ ⟨true, u1, u2, u3, u4, u5, false, dm, rfl, rfl, zu kB, (fun h => rfl), zu l3, zu l4, zu l5, zf⟩
    · intro h0 hd K hK
      have z : u1 = false := h0
      have z6_ : u6 = false := znb fun hu => z.symm.trans ((zu kF hu).2.1)
      have zd : u0 = true := by
        simp [Region.binds] at hd
        simp [hd]
      obtain ⟨rfl⟩ := zd
      subst z6_
      subst z
      clear h0 hd
      rw [if_pos (by rfl)]
      have c0 := keep1 (zu kB) (unhide HG1)
      go_simp
      exact unhide hK _ _ ⟨true, true, u2, u3, u4, u5, false, dm, rfl, rfl, zu kB, (fun _ => rfl), zu l3, zu l4, zu l5, zf⟩
    · intro h0 hd K hK
      have z : u2 = false := h0
      have z6_ : u6 = false := znb fun hu => z.symm.trans ((zu kF hu).2.2.1)
      subst z6_
      subst z
      clear h0 hd
      rw [if_pos (by rfl)]
      go_simp
      exact unhide hK _ _ ⟨u0, u1, true, u3, u4, u5, false, dm, rfl, rfl, zu kB, zu l1, (fun h => rfl), zu l4, zu l5, zf⟩
    · intro h0 hd K hK
      have z : u3 = false := h0
      have z6_ : u6 = false := znb fun hu => z.symm.trans ((zu kF hu).2.2.2.1)
      have zd : u2 = true := by
        simp [Region.binds] at hd
        simp [hd]
      obtain ⟨rfl⟩ := zd
      subst z6_
      subst z
      clear h0 hd
      rw [if_pos (by rfl)]
      go_simp
      exact unhide hK _ _ ⟨u0, u1, true, true, u4, u5, false, dm, rfl, rfl, zu kB, zu l1, (fun _ => rfl), (fun h => rfl), zu l5, zf⟩
    · intro h0 hd K hK
      have z : u4 = false := h0
      have z6_ : u6 = false := znb fun hu => z.symm.trans ((zu kF hu).2.2.2.2.1)
      have zd : u3 = true := by
        simp [Region.binds] at hd
        simp [hd]
      obtain ⟨rfl⟩ := zd
      subst z6_
      subst z
      clear h0 hd
      rw [if_pos (by rfl)]
      go_simp
      exact unhide hK _ _ ⟨u0, u1, u2, true, true, u5, false, dm, rfl, rfl, zu kB, zu l1, zu l3, (fun _ => rfl), (fun h => rfl), zf⟩
    · intro h0 hd K hK
      have z : u5 = false := h0
      have z6_ : u6 = false := znb fun hu => z.symm.trans ((zu kF hu).2.2.2.2.2)
      have zd : u4 = true := by
        simp [Region.binds] at hd
        simp [hd]
      obtain ⟨rfl⟩ := zd
      subst z6_
      subst z
      clear h0 hd
      rw [if_pos (by rfl)]
      have c0 := keep1 (zu kB) (unhide HC0)
      go_simp
      exact unhide hK _ _ ⟨u0, u1, u2, u3, true, true, false, dm, rfl, rfl, zu kB, zu l1, zu l3, zu l4, (fun _ => rfl), zf⟩
    · intro h0 hd K hK
      have z : u6 = false := h0
      have zd0 : u1 = true ∧ u5 = true := by
        simp [Region.binds] at hd
        simp [hd]
      have zd : u1 = true ∧ u5 = true ∧ u0 = true ∧ u2 = true ∧ u3 = true ∧ u4 = true := ⟨zd0.1, zd0.2, (zu l1 zd0.1), (zu l3 (zu l4 (zu l5 zd0.2))), (zu l4 (zu l5 zd0.2)), (zu l5 zd0.2)⟩
      obtain ⟨rfl, rfl, rfl, rfl, rfl, rfl⟩ := zd
      subst z
      clear h0 hd
      rw [if_pos (by rfl)]
      go_simp
      exact unhide hK _ _ ⟨true, true, true, true, true, true, true, dm, rfl, rfl, zu kB, (fun _ => rfl), (fun _ => rfl), (fun _ => rfl), (fun _ => rfl), (fun _ => ⟨rfl, rfl, rfl, rfl, rfl, rfl⟩)⟩
  case hend =>
    intro Lb A W hI
    obtain ⟨u0, u1, u2, u3, u4, hI⟩ := hI
    obtain ⟨u5, u6, dm, hI⟩ := hI
    obtain ⟨hLb, hI⟩ := hI
    obtain ⟨hA, hI⟩ := hI
    obtain ⟨kB, hI⟩ := hI
    obtain ⟨l1, hI⟩ := hI
    obtain ⟨l3, hI⟩ := hI
    obtain ⟨l4, hI⟩ := hI
    obtain ⟨l5, hI⟩ := hI
    have kF := hI
    clear hI
    subst hLb
    subst hA
    intro hL
    have hl : u0 = true ∧ u1 = true ∧ u2 = true ∧ u3 = true ∧ u4 = true ∧ u5 = true ∧ u6 = true := by
      have h2 := congrArg Array.toList hL
      simpa [List.replicate] using h2
    obtain ⟨rfl, rfl, rfl, rfl, rfl, rfl, rfl⟩ := hl
    exact unhide HQ   W kB

end Go.Proofs.Ytoidhlackoigkaa
