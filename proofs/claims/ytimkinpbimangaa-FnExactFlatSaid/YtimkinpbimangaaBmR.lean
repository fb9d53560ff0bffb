/-
  Statements of the model's Bent that draw their order, each walked alone.
-/
import Derived.Test.YtimkinpbimangaaBnMath
import Derived.Test.YtimkinpbimangaaInv2
import Derived.Test.YtimkinpbimangaaVb
namespace Go.Proofs.Ytimkinpbimangaa
open Go.ChangeShapes Go.WideShapes Go.ChangeAt Go.RowKit
set_option linter.unusedVariables false
set_option linter.unusedSimpArgs false

noncomputable def rg38 (id : Nat) : Go.Code := match Try.f38.body with | some c => (regOfZ id c).getD .skip | none => .skip
set_option maxHeartbeats 4000000 in
set_option maxRecDepth 100000 in
theorem bm12 {s1 s2 s3 s4 s5 s9 s11 s12 s13 s14 s15 s16 s17 s18 s19 s20 s21 s22 s23 s24 s25 s26 s27 s28 s29 s30 s31 s32 s33 s34 s35 s36 s37 s38 s39 s40 s41 s42 s43 s44 s45 s46 s47 s48 s49 s50 s51 s52 s53 s54 s55 s56 s57 s58 s59 s60 s61 s62 s63 s64 s65 s66 s67 s68 s69 s70 s71 s72 s73 s74 s75 s76 s77 s78 s79 s80 s81 s82 s83 s84 s85 s86 s87 s88 s89 s90 s91 s92 s93 s94 s95 s96 s97 s98 s99 s100 s101 s102 : Value} {pb po n cu g i : Nat} {v0 v1 x0 y0 l p0 p1 x1 y1 : Int} {V : World} {K_ : Act → World → Prop} 
    (HS0 : Hid (V.cell? ⟨g, 0, none⟩ = some (.int .i64 (x0)))) (HS1 : Hid (V.cell? ⟨g, 1, none⟩ = some (.int .i64 (y0)))) (HC : Hid (V.cell? ⟨pb, po + i, none⟩ = some (.int .i64 (l)))) 
    (HX5 : Hid (i < n))
    (HW7 : Hid (IntKind.i64.wrap (v0 * l) = p0))
    (HW8 : Hid (IntKind.i64.wrap (x0 + p0) = x1))
    (HX14 : Hid (i < n))
    (HW16 : Hid (IntKind.i64.wrap (v1 * l) = p1))
    (HW17 : Hid (IntKind.i64.wrap (y0 + p1) = y1))
    (hQ : ∀ (n19 : Nat)  (W1 : World), Below V.heap.size V W1 → vb W1 n19 32 [.int .i64 (x1), .int .i64 (y1)] → V.heap.size ≤ n19 → K_ { tmps := #[.slice (some ⟨pb, po, none⟩) n cu, s1, s2, s3, s4, s5, .pointer (some ⟨g, 0, none⟩), .int .i64 (v0), .int .i64 (v1), s9, .int .i64 (i : Int), s11, .pointer (some ⟨n19, 0, none⟩), s13, s14, s15, s16, s17, s18, s19, s20, s21, s22, s23, s24, s25, s26, s27, s28, s29, s30, s31, s32, s33, s34, s35, s36, s37, s38, s39, s40, s41, s42, s43, s44, s45, s46, s47, s48, s49, s50, .pointer (some ⟨g, 0, none⟩), .int .i64 (x0), .int .i64 (v0), .slice (some ⟨pb, po, none⟩) n cu, .int .i64 (i : Int), .pointer (some ⟨pb, po + i, none⟩), .int .i64 (l), .int .i64 (p0), .int .i64 (x1), .pointer (some ⟨g, 1, none⟩), .int .i64 (y0), .int .i64 (v1), .slice (some ⟨pb, po, none⟩) n cu, .int .i64 (i : Int), .pointer (some ⟨pb, po + i, none⟩), .int .i64 (l), .int .i64 (p1), .int .i64 (y1), .agg #[.int .i64 (x1), .int .i64 (y1)], s70, s71, s72, s73, s74, s75, s76, s77, s78, s79, s80, s81, s82, s83, s84, s85, s86, s87, s88, s89, s90, s91, s92, s93, s94, s95, s96, s97, s98, s99, s100, s101, s102], defers := [] } W1) :
    Go.Code.wp Try.prog (rg38 12) (Only K_) { tmps := #[.slice (some ⟨pb, po, none⟩) n cu, s1, s2, s3, s4, s5, .pointer (some ⟨g, 0, none⟩), .int .i64 (v0), .int .i64 (v1), s9, .int .i64 (i : Int), s11, s12, s13, s14, s15, s16, s17, s18, s19, s20, s21, s22, s23, s24, s25, s26, s27, s28, s29, s30, s31, s32, s33, s34, s35, s36, s37, s38, s39, s40, s41, s42, s43, s44, s45, s46, s47, s48, s49, s50, s51, s52, s53, s54, s55, s56, s57, s58, s59, s60, s61, s62, s63, s64, s65, s66, s67, s68, s69, s70, s71, s72, s73, s74, s75, s76, s77, s78, s79, s80, s81, s82, s83, s84, s85, s86, s87, s88, s89, s90, s91, s92, s93, s94, s95, s96, s97, s98, s99, s100, s101, s102], defers := [] } V := by
  have HQ := hide hQ
  clear hQ
  conv => arg 2; whnf
  refine wp_region_inv2 (fun Lb A W => ∃ (u0 u1 u2 u3 u4 u5 u6 u7 u8 u9 u10 u11 u12 u13 u14 u15 u16 u17 u18 u19 u20 : Bool) (n19 : Nat), Lb = #[u0, u1, u2, u3, u4, u5, u6, u7, u8, u9, u10, u11, u12, u13, u14, u15, u16, u17, u18, u19, u20] ∧ A = ({ tmps := #[.slice (some ⟨pb, po, none⟩) n cu, s1, s2, s3, s4, s5, .pointer (some ⟨g, 0, none⟩), .int .i64 (v0), .int .i64 (v1), s9, .int .i64 (i : Int), s11, (bif u19 then .pointer (some ⟨n19, 0, none⟩) else s12), s13, s14, s15, s16, s17, s18, s19, s20, s21, s22, s23, s24, s25, s26, s27, s28, s29, s30, s31, s32, s33, s34, s35, s36, s37, s38, s39, s40, s41, s42, s43, s44, s45, s46, s47, s48, s49, s50, (bif u0 then .pointer (some ⟨g, 0, none⟩) else s51), (bif u1 then .int .i64 (x0) else s52), (bif u2 then .int .i64 (v0) else s53), (bif u3 then .slice (some ⟨pb, po, none⟩) n cu else s54), (bif u4 then .int .i64 (i : Int) else s55), (bif u5 then .pointer (some ⟨pb, po + i, none⟩) else s56), (bif u6 then .int .i64 (l) else s57), (bif u7 then .int .i64 (p0) else s58), (bif u8 then .int .i64 (x1) else s59), (bif u9 then .pointer (some ⟨g, 1, none⟩) else s60), (bif u10 then .int .i64 (y0) else s61), (bif u11 then .int .i64 (v1) else s62), (bif u12 then .slice (some ⟨pb, po, none⟩) n cu else s63), (bif u13 then .int .i64 (i : Int) else s64), (bif u14 then .pointer (some ⟨pb, po + i, none⟩) else s65), (bif u15 then .int .i64 (l) else s66), (bif u16 then .int .i64 (p1) else s67), (bif u17 then .int .i64 (y1) else s68), (bif u18 then .agg #[.int .i64 (x1), .int .i64 (y1)] else s69), s70, s71, s72, s73, s74, s75, s76, s77, s78, s79, s80, s81, s82, s83, s84, s85, s86, s87, s88, s89, s90, s91, s92, s93, s94, s95, s96, s97, s98, s99, s100, s101, s102], defers := [] } : Act) ∧ Below V.heap.size V W ∧ (u19 = true → vb W n19 32 (bif u20 then [.int .i64 (x1), .int .i64 (y1)] else [.int .i64 (0), .int .i64 (0)]) ∧ V.heap.size ≤ n19) ∧ (u20 = true → u0 = true ∧ u1 = true ∧ u2 = true ∧ u3 = true ∧ u4 = true ∧ u5 = true ∧ u6 = true ∧ u7 = true ∧ u8 = true ∧ u9 = true ∧ u10 = true ∧ u11 = true ∧ u12 = true ∧ u13 = true ∧ u14 = true ∧ u15 = true ∧ u16 = true ∧ u17 = true ∧ u18 = true ∧ u19 = true)) (by kernel_rfl) (by kernel_rfl) ?h0 ?hstep ?hend
  case h0 =>
    exact ⟨false, false, false, false, false, false, false, false, false, false, false, false, false, false, false, false, false, false, false, false, false, 0, rfl, rfl, Below.drew (Below.refl _ _), zf, zf⟩
  case hstep =>
    intro Lb A W hI
    obtain ⟨u0, u1, u2, u3, u4, hI⟩ := hI
    obtain ⟨u5, u6, u7, u8, u9, hI⟩ := hI
    obtain ⟨u10, u11, u12, u13, u14, hI⟩ := hI
    obtain ⟨u15, u16, u17, u18, u19, hI⟩ := hI
    obtain ⟨u20, n19, hI⟩ := hI
    obtain ⟨hLb, hI⟩ := hI
    obtain ⟨hA, hI⟩ := hI
    obtain ⟨kB, hI⟩ := hI
    obtain ⟨k19, hI⟩ := hI
    have kF := hI
    clear hI
    subst hLb
    subst hA
    replace kB := hide kB
    replace k19 := hide k19
    replace kF := hide kF
    refine ⟨?_, ?_, ?_, ?_, ?_, ?_, ?_, ?_, ?_, ?_, ?_, ?_, ?_, ?_, ?_, ?_, ?_, ?_, ?_, ?_, ?_, trivial⟩
    · intro h0 hd K hK
      have z : u0 = false := h0
      have z20_ : u20 = false := znb fun hu => z.symm.trans ((zu kF hu).1)
      subst z20_
      subst z
      clear h0 hd
      rw [if_pos (by rfl)]
      go_simp
      exact unhide hK _ _ ⟨true, u1, u2, u3, u4, u5, u6, u7, u8, u9, u10, u11, u12, u13, u14, u15, u16, u17, u18, u19, false, n19, rfl, rfl, zu kB, zu k19, zf⟩
    · intro h0 hd K hK
      have z : u1 = false := h0
      have z20_ : u20 = false := znb fun hu => z.symm.trans ((zu kF hu).2.1)
      have zd : u0 = true := by
        simp [Region.binds] at hd
        simp [hd]
      obtain ⟨rfl⟩ := zd
      subst z20_
      subst z
      clear h0 hd
      rw [if_pos (by rfl)]
      have c0 := keep1 (zu kB) (unhide HS0)
      go_simp
      exact unhide hK _ _ ⟨true, true, u2, u3, u4, u5, u6, u7, u8, u9, u10, u11, u12, u13, u14, u15, u16, u17, u18, u19, false, n19, rfl, rfl, zu kB, zu k19, zf⟩
    · intro h0 hd K hK
      have z : u2 = false := h0
      have z20_ : u20 = false := znb fun hu => z.symm.trans ((zu kF hu).2.2.1)
      subst z20_
      subst z
      clear h0 hd
      rw [if_pos (by rfl)]
      go_simp
      exact unhide hK _ _ ⟨u0, u1, true, u3, u4, u5, u6, u7, u8, u9, u10, u11, u12, u13, u14, u15, u16, u17, u18, u19, false, n19, rfl, rfl, zu kB, zu k19, zf⟩
    · intro h0 hd K hK
      have z : u3 = false := h0
      have z20_ : u20 = false := znb fun hu => z.symm.trans ((zu kF hu).2.2.2.1)
      subst z20_
      subst z
      clear h0 hd
      rw [if_pos (by rfl)]
      go_simp
      exact unhide hK _ _ ⟨u0, u1, u2, true, u4, u5, u6, u7, u8, u9, u10, u11, u12, u13, u14, u15, u16, u17, u18, u19, false, n19, rfl, rfl, zu kB, zu k19, zf⟩
    · intro h0 hd K hK
      have z : u4 = false := h0
      have z20_ : u20 = false := znb fun hu => z.symm.trans ((zu kF hu).2.2.2.2.1)
      subst z20_
      subst z
      clear h0 hd
      rw [if_pos (by rfl)]
      go_simp
      exact unhide hK _ _ ⟨u0, u1, u2, u3, true, u5, u6, u7, u8, u9, u10, u11, u12, u13, u14, u15, u16, u17, u18, u19, false, n19, rfl, rfl, zu kB, zu k19, zf⟩
    · intro h0 hd K hK
      have z : u5 = false := h0
      have z20_ : u20 = false := znb fun hu => z.symm.trans ((zu kF hu).2.2.2.2.2.1)
      have zd : u3 = true ∧ u4 = true := by
        simp [Region.binds] at hd
        simp [hd]
      obtain ⟨rfl, rfl⟩ := zd
      subst z20_
      subst z
      clear h0 hd
      rw [if_pos (by rfl)]
      have q1 : i < n := unhide HX5
      have q2 : (i : Int) < (n : Int) := by omega
      go_simp
      exact unhide hK _ _ ⟨u0, u1, u2, true, true, true, u6, u7, u8, u9, u10, u11, u12, u13, u14, u15, u16, u17, u18, u19, false, n19, rfl, rfl, zu kB, zu k19, zf⟩
    · intro h0 hd K hK
      have z : u6 = false := h0
      have z20_ : u20 = false := znb fun hu => z.symm.trans ((zu kF hu).2.2.2.2.2.2.1)
      have zd : u5 = true := by
        simp [Region.binds] at hd
        simp [hd]
      obtain ⟨rfl⟩ := zd
      subst z20_
      subst z
      clear h0 hd
      rw [if_pos (by rfl)]
      have c0 := keep1 (zu kB) (unhide HC)
      go_simp
      exact unhide hK _ _ ⟨u0, u1, u2, u3, u4, true, true, u7, u8, u9, u10, u11, u12, u13, u14, u15, u16, u17, u18, u19, false, n19, rfl, rfl, zu kB, zu k19, zf⟩
    · intro h0 hd K hK
      have z : u7 = false := h0
      have z20_ : u20 = false := znb fun hu => z.symm.trans ((zu kF hu).2.2.2.2.2.2.2.1)
      have zd : u2 = true ∧ u6 = true := by
        simp [Region.binds] at hd
        simp [hd]
      obtain ⟨rfl, rfl⟩ := zd
      subst z20_
      subst z
      clear h0 hd
      rw [if_pos (by rfl)]
      have wq := unhide HW7
      go_simp
      exact unhide hK _ _ ⟨u0, u1, true, u3, u4, u5, true, true, u8, u9, u10, u11, u12, u13, u14, u15, u16, u17, u18, u19, false, n19, rfl, rfl, zu kB, zu k19, zf⟩
    · intro h0 hd K hK
      have z : u8 = false := h0
      have z20_ : u20 = false := znb fun hu => z.symm.trans ((zu kF hu).2.2.2.2.2.2.2.2.1)
      have zd : u1 = true ∧ u7 = true := by
        simp [Region.binds] at hd
        simp [hd]
      obtain ⟨rfl, rfl⟩ := zd
      subst z20_
      subst z
      clear h0 hd
      rw [if_pos (by rfl)]
      have wq := unhide HW8
      go_simp
      exact unhide hK _ _ ⟨u0, true, u2, u3, u4, u5, u6, true, true, u9, u10, u11, u12, u13, u14, u15, u16, u17, u18, u19, false, n19, rfl, rfl, zu kB, zu k19, zf⟩
    · intro h0 hd K hK
      have z : u9 = false := h0
      have z20_ : u20 = false := znb fun hu => z.symm.trans ((zu kF hu).2.2.2.2.2.2.2.2.2.1)
      subst z20_
      subst z
      clear h0 hd
      rw [if_pos (by rfl)]
      go_simp
      exact unhide hK _ _ ⟨u0, u1, u2, u3, u4, u5, u6, u7, u8, true, u10, u11, u12, u13, u14, u15, u16, u17, u18, u19, false, n19, rfl, rfl, zu kB, zu k19, zf⟩
    · intro h0 hd K hK
      have z : u10 = false := h0
      have z20_ : u20 = false := znb fun hu => z.symm.trans ((zu kF hu).2.2.2.2.2.2.2.2.2.2.1)
      have zd : u9 = true := by
        simp [Region.binds] at hd
        simp [hd]
      obtain ⟨rfl⟩ := zd
      subst z20_
      subst z
      clear h0 hd
      rw [if_pos (by rfl)]
      have c0 := keep1 (zu kB) (unhide HS1)
      go_simp
      exact unhide hK _ _ ⟨u0, u1, u2, u3, u4, u5, u6, u7, u8, true, true, u11, u12, u13, u14, u15, u16, u17, u18, u19, false, n19, rfl, rfl, zu kB, zu k19, zf⟩
    · intro h0 hd K hK
      have z : u11 = false := h0
      have z20_ : u20 = false := znb fun hu => z.symm.trans ((zu kF hu).2.2.2.2.2.2.2.2.2.2.2.1)
      subst z20_
      subst z
      clear h0 hd
      rw [if_pos (by rfl)]
      go_simp
      exact unhide hK _ _ ⟨u0, u1, u2, u3, u4, u5, u6, u7, u8, u9, u10, true, u12, u13, u14, u15, u16, u17, u18, u19, false, n19, rfl, rfl, zu kB, zu k19, zf⟩
    · intro h0 hd K hK
      have z : u12 = false := h0
      have z20_ : u20 = false := znb fun hu => z.symm.trans ((zu kF hu).2.2.2.2.2.2.2.2.2.2.2.2.1)
      subst z20_
      subst z
      clear h0 hd
      rw [if_pos (by rfl)]
      go_simp
      exact unhide hK _ _ ⟨u0, u1, u2, u3, u4, u5, u6, u7, u8, u9, u10, u11, true, u13, u14, u15, u16, u17, u18, u19, false, n19, rfl, rfl, zu kB, zu k19, zf⟩
    · intro h0 hd K hK
      have z : u13 = false := h0
      have z20_ : u20 = false := znb fun hu => z.symm.trans ((zu kF hu).2.2.2.2.2.2.2.2.2.2.2.2.2.1)
      subst z20_
      subst z
      clear h0 hd
      rw [if_pos (by rfl)]
      go_simp
      exact unhide hK _ _ ⟨u0, u1, u2, u3, u4, u5, u6, u7, u8, u9, u10, u11, u12, true, u14, u15, u16, u17, u18, u19, false, n19, rfl, rfl, zu kB, zu k19, zf⟩
    · intro h0 hd K hK
      have z : u14 = false := h0
      have z20_ : u20 = false := znb fun hu => z.symm.trans ((zu kF hu).2.2.2.2.2.2.2.2.2.2.2.2.2.2.1)
      have zd : u12 = true ∧ u13 = true := by
        simp [Region.binds] at hd
        simp [hd]
      obtain ⟨rfl, rfl⟩ := zd
      subst z20_
      subst z
      clear h0 hd
      rw [if_pos (by rfl)]
      have q1 : i < n := unhide HX14
      have q2 : (i : Int) < (n : Int) := by omega
      go_simp
      exact unhide hK _ _ ⟨u0, u1, u2, u3, u4, u5, u6, u7, u8, u9, u10, u11, true, true, true, u15, u16, u17, u18, u19, false, n19, rfl, rfl, zu kB, zu k19, zf⟩
    · intro h0 hd K hK
      have z : u15 = false := h0
      have z20_ : u20 = false := znb fun hu => z.symm.trans ((zu kF hu).2.2.2.2.2.2.2.2.2.2.2.2.2.2.2.1)
      have zd : u14 = true := by
        simp [Region.binds] at hd
        simp [hd]
      obtain ⟨rfl⟩ := zd
      subst z20_
      subst z
      clear h0 hd
      rw [if_pos (by rfl)]
      have c0 := keep1 (zu kB) (unhide HC)
      go_simp
      exact unhide hK _ _ ⟨u0, u1, u2, u3, u4, u5, u6, u7, u8, u9, u10, u11, u12, u13, true, true, u16, u17, u18, u19, false, n19, rfl, rfl, zu kB, zu k19, zf⟩
    · intro h0 hd K hK
      have z : u16 = false := h0
      have z20_ : u20 = false := znb fun hu => z.symm.trans ((zu kF hu).2.2.2.2.2.2.2.2.2.2.2.2.2.2.2.2.1)
      have zd : u11 = true ∧ u15 = true := by
        simp [Region.binds] at hd
        simp [hd]
      obtain ⟨rfl, rfl⟩ := zd
      subst z20_
      subst z
      clear h0 hd
      rw [if_pos (by rfl)]
      have wq := unhide HW16
      go_simp
      exact unhide hK _ _ ⟨u0, u1, u2, u3, u4, u5, u6, u7, u8, u9, u10, true, u12, u13, u14, true, true, u17, u18, u19, false, n19, rfl, rfl, zu kB, zu k19, zf⟩
    · intro h0 hd K hK
      have z : u17 = false := h0
      have z20_ : u20 = false := znb fun hu => z.symm.trans ((zu kF hu).2.2.2.2.2.2.2.2.2.2.2.2.2.2.2.2.2.1)
      have zd : u10 = true ∧ u16 = true := by
        simp [Region.binds] at hd
        simp [hd]
      obtain ⟨rfl, rfl⟩ := zd
      subst z20_
      subst z
      clear h0 hd
      rw [if_pos (by rfl)]
      have wq := unhide HW17
      go_simp
      exact unhide hK _ _ ⟨u0, u1, u2, u3, u4, u5, u6, u7, u8, u9, true, u11, u12, u13, u14, u15, true, true, u18, u19, false, n19, rfl, rfl, zu kB, zu k19, zf⟩
    · intro h0 hd K hK
      have z : u18 = false := h0
      have z20_ : u20 = false := znb fun hu => z.symm.trans ((zu kF hu).2.2.2.2.2.2.2.2.2.2.2.2.2.2.2.2.2.2.1)
      have zd : u8 = true ∧ u17 = true := by
        simp [Region.binds] at hd
        simp [hd]
      obtain ⟨rfl, rfl⟩ := zd
      subst z20_
      subst z
      clear h0 hd
      rw [if_pos (by rfl)]
      go_simp
      exact unhide hK _ _ ⟨u0, u1, u2, u3, u4, u5, u6, u7, true, u9, u10, u11, u12, u13, u14, u15, u16, true, true, u19, false, n19, rfl, rfl, zu kB, zu k19, zf⟩
    · intro h0 hd K hK
      have z : u19 = false := h0
      have z20_ : u20 = false := znb fun hu => z.symm.trans ((zu kF hu).2.2.2.2.2.2.2.2.2.2.2.2.2.2.2.2.2.2.2)
      subst z20_
      subst z
      clear h0 hd
      rw [if_pos (by rfl)]
      go_simp
      exact unhide hK _ _ ⟨u0, u1, u2, u3, u4, u5, u6, u7, u8, u9, u10, u11, u12, u13, u14, u15, u16, u17, u18, true, false, W.heap.size, rfl, rfl, ba (zu kB) _, (fun _ => ⟨vb_new W 32 _ _ rfl, (zu kB).size⟩), zf⟩
    · intro h0 hd K hK
      have z : u20 = false := h0
      have zd0 : u0 = true ∧ u1 = true ∧ u2 = true ∧ u3 = true ∧ u4 = true ∧ u5 = true ∧ u6 = true ∧ u7 = true ∧ u8 = true ∧ u9 = true ∧ u10 = true ∧ u11 = true ∧ u12 = true ∧ u13 = true ∧ u14 = true ∧ u15 = true ∧ u16 = true ∧ u17 = true ∧ u18 = true ∧ u19 = true := by
        simp [Region.binds] at hd
        simp [hd]
      have zd : u0 = true ∧ u1 = true ∧ u2 = true ∧ u3 = true ∧ u4 = true ∧ u5 = true ∧ u6 = true ∧ u7 = true ∧ u8 = true ∧ u9 = true ∧ u10 = true ∧ u11 = true ∧ u12 = true ∧ u13 = true ∧ u14 = true ∧ u15 = true ∧ u16 = true ∧ u17 = true ∧ u18 = true ∧ u19 = true := ⟨zd0.1, zd0.2.1, zd0.2.2.1, zd0.2.2.2.1, zd0.2.2.2.2.1, zd0.2.2.2.2.2.1, zd0.2.2.2.2.2.2.1, zd0.2.2.2.2.2.2.2.1, zd0.2.2.2.2.2.2.2.2.1, zd0.2.2.2.2.2.2.2.2.2.1, zd0.2.2.2.2.2.2.2.2.2.2.1, zd0.2.2.2.2.2.2.2.2.2.2.2.1, zd0.2.2.2.2.2.2.2.2.2.2.2.2.1, zd0.2.2.2.2.2.2.2.2.2.2.2.2.2.1, zd0.2.2.2.2.2.2.2.2.2.2.2.2.2.2.1, zd0.2.2.2.2.2.2.2.2.2.2.2.2.2.2.2.1, zd0.2.2.2.2.2.2.2.2.2.2.2.2.2.2.2.2.1, zd0.2.2.2.2.2.2.2.2.2.2.2.2.2.2.2.2.2.1, zd0.2.2.2.2.2.2.2.2.2.2.2.2.2.2.2.2.2.2.1, zd0.2.2.2.2.2.2.2.2.2.2.2.2.2.2.2.2.2.2.2⟩
      obtain ⟨rfl, rfl, rfl, rfl, rfl, rfl, rfl, rfl, rfl, rfl, rfl, rfl, rfl, rfl, rfl, rfl, rfl, rfl, rfl, rfl⟩ := zd
      subst z
      clear h0 hd
      rw [if_pos (by rfl)]
      have v1 := (zu k19 rfl).1
      have g9 := (zu k19 rfl).2
      have fz := v1.frozen
      have q0 := v1.cell (m := 0) rfl
      have q1 := v1.cell (m := 1) rfl
      have HV1 := hide v1
      clear v1
      go_simp
      exact unhide hK _ _ ⟨true, true, true, true, true, true, true, true, true, true, true, true, true, true, true, true, true, true, true, true, true, n19, rfl, rfl, (((((zu kB)).setCell (p := ⟨n19, 0, none⟩) g9 _)).setCell (p := ⟨n19, 1, none⟩) g9 _), (fun _ => ⟨(((unhide HV1).set 0 _).set 1 _), g9⟩), (fun _ => ⟨rfl, rfl, rfl, rfl, rfl, rfl, rfl, rfl, rfl, rfl, rfl, rfl, rfl, rfl, rfl, rfl, rfl, rfl, rfl, rfl⟩)⟩
  case hend =>
    intro Lb A W hI
    obtain ⟨u0, u1, u2, u3, u4, hI⟩ := hI
    obtain ⟨u5, u6, u7, u8, u9, hI⟩ := hI
    obtain ⟨u10, u11, u12, u13, u14, hI⟩ := hI
    obtain ⟨u15, u16, u17, u18, u19, hI⟩ := hI
    obtain ⟨u20, n19, hI⟩ := hI
    obtain ⟨hLb, hI⟩ := hI
    obtain ⟨hA, hI⟩ := hI
    obtain ⟨kB, hI⟩ := hI
    obtain ⟨k19, hI⟩ := hI
    have kF := hI
    clear hI
    subst hLb
    subst hA
    intro hL
    have hl : u0 = true ∧ u1 = true ∧ u2 = true ∧ u3 = true ∧ u4 = true ∧ u5 = true ∧ u6 = true ∧ u7 = true ∧ u8 = true ∧ u9 = true ∧ u10 = true ∧ u11 = true ∧ u12 = true ∧ u13 = true ∧ u14 = true ∧ u15 = true ∧ u16 = true ∧ u17 = true ∧ u18 = true ∧ u19 = true ∧ u20 = true := by
      have h2 := congrArg Array.toList hL
      simpa [List.replicate] using h2
    obtain ⟨rfl, rfl, rfl, rfl, rfl, rfl, rfl, rfl, rfl, rfl, rfl, rfl, rfl, rfl, rfl, rfl, rfl, rfl, rfl, rfl, rfl⟩ := hl
    exact unhide HQ n19  W kB (k19 rfl).1 (k19 rfl).2

set_option maxHeartbeats 4000000 in
set_option maxRecDepth 100000 in
theorem bm16 {s0 s1 s2 s3 s4 s5 s7 s8 s10 s11 s14 s15 s16 s17 s18 s19 s20 s21 s22 s23 s24 s25 s26 s27 s28 s29 s30 s31 s32 s33 s34 s35 s36 s37 s38 s39 s40 s41 s42 s43 s44 s45 s46 s47 s48 s49 s50 s51 s52 s53 s54 s55 s56 s57 s58 s59 s60 s61 s62 s63 s64 s65 s66 s67 s68 s69 s70 s71 s72 s73 s74 s75 s76 s77 s78 s79 s80 s81 s82 s83 s84 s85 s86 s87 s88 s89 s90 s91 s92 s93 s94 s95 s96 s97 s98 s99 s100 s101 s102 : Value} {b n cap g h i j : Nat} {x0 y0 x1 y1 x2 y2 x3 y3 : Int} {Pq : Value → Prop} {V : World} {K_ : Act → World → Prop} 
    (HA0 : Hid (V.cell? ⟨b, i * 2, none⟩ = some (.int .i64 (x0)))) (HA1 : Hid (V.cell? ⟨b, i * 2 + 1, none⟩ = some (.int .i64 (y0)))) (HB0 : Hid (V.cell? ⟨b, j * 2, none⟩ = some (.int .i64 (x1)))) (HB1 : Hid (V.cell? ⟨b, j * 2 + 1, none⟩ = some (.int .i64 (y1)))) (HG0 : Hid (V.cell? ⟨g, 0, none⟩ = some (.int .i64 (x2)))) (HG1 : Hid (V.cell? ⟨g, 1, none⟩ = some (.int .i64 (y2)))) (HH0 : Hid (V.cell? ⟨h, 0, none⟩ = some (.int .i64 (x3)))) (HH1 : Hid (V.cell? ⟨h, 1, none⟩ = some (.int .i64 (y3)))) 
    (HX2 : Hid (i < n))
    (HW6 : Hid (IntKind.i64.wrap ((i : Int) + 1) = (j : Int)))
    (HX7 : Hid (j < n))
    (HF11 : Hid (∀ Xw, Below V.heap.size V Xw → Calls Try.prog 61 #[.agg #[.int .i64 (x0), .int .i64 (y0)], .agg #[.int .i64 (x1), .int .i64 (y1)], .agg #[.int .i64 (x2), .int .i64 (y2)], .agg #[.int .i64 (x3), .int .i64 (y3)]] Xw fun e w' => (∃ r_, e = .returned r_ ∧ Pq r_) ∧ Below Xw.heap.size Xw w'))
    (hQ : ∀  (sv : Value) (W1 : World), Below V.heap.size V W1 → Pq sv → K_ { tmps := #[s0, s1, s2, s3, s4, s5, .pointer (some ⟨g, 0, none⟩), s7, s8, .slice (some ⟨b, 0, none⟩) n cap, s10, s11, .pointer (some ⟨h, 0, none⟩), .int .i64 (i : Int), sv, s15, s16, s17, s18, s19, s20, s21, s22, s23, s24, s25, s26, s27, s28, s29, s30, s31, s32, s33, s34, s35, s36, s37, s38, s39, s40, s41, s42, s43, s44, s45, s46, s47, s48, s49, s50, s51, s52, s53, s54, s55, s56, s57, s58, s59, s60, s61, s62, s63, s64, s65, s66, s67, s68, s69, s70, s71, s72, s73, s74, .slice (some ⟨b, 0, none⟩) n cap, .int .i64 (i : Int), .pointer (some ⟨b, i * 2, none⟩), .agg #[.int .i64 (x0), .int .i64 (y0)], .slice (some ⟨b, 0, none⟩) n cap, .int .i64 (i : Int), .int .i64 (j : Int), .pointer (some ⟨b, j * 2, none⟩), .agg #[.int .i64 (x1), .int .i64 (y1)], .agg #[.int .i64 (x2), .int .i64 (y2)], .agg #[.int .i64 (x3), .int .i64 (y3)], sv, s87, s88, s89, s90, s91, s92, s93, s94, s95, s96, s97, s98, s99, s100, s101, s102], defers := [] } W1) :
    Go.Code.wp Try.prog (rg38 16) (Only K_) { tmps := #[s0, s1, s2, s3, s4, s5, .pointer (some ⟨g, 0, none⟩), s7, s8, .slice (some ⟨b, 0, none⟩) n cap, s10, s11, .pointer (some ⟨h, 0, none⟩), .int .i64 (i : Int), s14, s15, s16, s17, s18, s19, s20, s21, s22, s23, s24, s25, s26, s27, s28, s29, s30, s31, s32, s33, s34, s35, s36, s37, s38, s39, s40, s41, s42, s43, s44, s45, s46, s47, s48, s49, s50, s51, s52, s53, s54, s55, s56, s57, s58, s59, s60, s61, s62, s63, s64, s65, s66, s67, s68, s69, s70, s71, s72, s73, s74, s75, s76, s77, s78, s79, s80, s81, s82, s83, s84, s85, s86, s87, s88, s89, s90, s91, s92, s93, s94, s95, s96, s97, s98, s99, s100, s101, s102], defers := [] } V := by
  have HQ := hide hQ
  clear hQ
  conv => arg 2; whnf
  refine wp_region_inv2 (fun Lb A W => ∃ (u0 u1 u2 u3 u4 u5 u6 u7 u8 u9 u10 u11 u12 : Bool) (sv : Value), Lb = #[u0, u1, u2, u3, u4, u5, u6, u7, u8, u9, u10, u11, u12] ∧ A = ({ tmps := #[s0, s1, s2, s3, s4, s5, .pointer (some ⟨g, 0, none⟩), s7, s8, .slice (some ⟨b, 0, none⟩) n cap, s10, s11, .pointer (some ⟨h, 0, none⟩), .int .i64 (i : Int), (bif u12 then sv else s14), s15, s16, s17, s18, s19, s20, s21, s22, s23, s24, s25, s26, s27, s28, s29, s30, s31, s32, s33, s34, s35, s36, s37, s38, s39, s40, s41, s42, s43, s44, s45, s46, s47, s48, s49, s50, s51, s52, s53, s54, s55, s56, s57, s58, s59, s60, s61, s62, s63, s64, s65, s66, s67, s68, s69, s70, s71, s72, s73, s74, (bif u0 then .slice (some ⟨b, 0, none⟩) n cap else s75), (bif u1 then .int .i64 (i : Int) else s76), (bif u2 then .pointer (some ⟨b, i * 2, none⟩) else s77), (bif u3 then .agg #[.int .i64 (x0), .int .i64 (y0)] else s78), (bif u4 then .slice (some ⟨b, 0, none⟩) n cap else s79), (bif u5 then .int .i64 (i : Int) else s80), (bif u6 then .int .i64 (j : Int) else s81), (bif u7 then .pointer (some ⟨b, j * 2, none⟩) else s82), (bif u8 then .agg #[.int .i64 (x1), .int .i64 (y1)] else s83), (bif u9 then .agg #[.int .i64 (x2), .int .i64 (y2)] else s84), (bif u10 then .agg #[.int .i64 (x3), .int .i64 (y3)] else s85), (bif u11 then sv else s86), s87, s88, s89, s90, s91, s92, s93, s94, s95, s96, s97, s98, s99, s100, s101, s102], defers := [] } : Act) ∧ Below V.heap.size V W ∧ (u11 = true → Pq sv) ∧ (u12 = true → u0 = true ∧ u1 = true ∧ u2 = true ∧ u3 = true ∧ u4 = true ∧ u5 = true ∧ u6 = true ∧ u7 = true ∧ u8 = true ∧ u9 = true ∧ u10 = true ∧ u11 = true)) (by kernel_rfl) (by kernel_rfl) ?h0 ?hstep ?hend
  case h0 =>
    exact ⟨false, false, false, false, false, false, false, false, false, false, false, false, false, undef, rfl, rfl, Below.drew (Below.refl _ _), zf, zf⟩
  case hstep =>
    intro Lb A W hI
    obtain ⟨u0, u1, u2, u3, u4, hI⟩ := hI
    obtain ⟨u5, u6, u7, u8, u9, hI⟩ := hI
    obtain ⟨u10, u11, u12, sv, hI⟩ := hI
    obtain ⟨hLb, hI⟩ := hI
    obtain ⟨hA, hI⟩ := hI
    obtain ⟨kB, hI⟩ := hI
    obtain ⟨kx11, hI⟩ := hI
    have kF := hI
    clear hI
    subst hLb
    subst hA
    replace kB := hide kB
    replace kx11 := hide kx11
    replace kF := hide kF
    refine ⟨?_, ?_, ?_, ?_, ?_, ?_, ?_, ?_, ?_, ?_, ?_, ?_, ?_, trivial⟩
    · intro h0 hd K hK
      have z : u0 = false := h0
      have z12_ : u12 = false := znb fun hu => z.symm.trans ((zu kF hu).1)
      subst z12_
      subst z
      clear h0 hd
      rw [if_pos (by rfl)]
      go_simp
      exact unhide hK _ _ ⟨true, u1, u2, u3, u4, u5, u6, u7, u8, u9, u10, u11, false, sv, rfl, rfl, zu kB, zu kx11, zf⟩
    · intro h0 hd K hK
      have z : u1 = false := h0
      have z12_ : u12 = false := znb fun hu => z.symm.trans ((zu kF hu).2.1)
      subst z12_
      subst z
      clear h0 hd
      rw [if_pos (by rfl)]
      go_simp
      exact unhide hK _ _ ⟨u0, true, u2, u3, u4, u5, u6, u7, u8, u9, u10, u11, false, sv, rfl, rfl, zu kB, zu kx11, zf⟩
    · intro h0 hd K hK
      have z : u2 = false := h0
      have z12_ : u12 = false := znb fun hu => z.symm.trans ((zu kF hu).2.2.1)
      have zd : u0 = true ∧ u1 = true := by
        simp [Region.binds] at hd
        simp [hd]
      obtain ⟨rfl, rfl⟩ := zd
      subst z12_
      subst z
      clear h0 hd
      rw [if_pos (by rfl)]
      have q1 : i < n := unhide HX2
      have q2 : (i : Int) < (n : Int) := by omega
      go_simp
      exact unhide hK _ _ ⟨true, true, true, u3, u4, u5, u6, u7, u8, u9, u10, u11, false, sv, rfl, rfl, zu kB, zu kx11, zf⟩
    · intro h0 hd K hK
      have z : u3 = false := h0
      have z12_ : u12 = false := znb fun hu => z.symm.trans ((zu kF hu).2.2.2.1)
      have zd : u2 = true := by
        simp [Region.binds] at hd
        simp [hd]
      obtain ⟨rfl⟩ := zd
      subst z12_
      subst z
      clear h0 hd
      rw [if_pos (by rfl)]
      have c0 := keep1 (zu kB) (unhide HA0)
      have c1 := keep1 (zu kB) (unhide HA1)
      go_simp
      exact unhide hK _ _ ⟨u0, u1, true, true, u4, u5, u6, u7, u8, u9, u10, u11, false, sv, rfl, rfl, zu kB, zu kx11, zf⟩
    · intro h0 hd K hK
      have z : u4 = false := h0
      have z12_ : u12 = false := znb fun hu => z.symm.trans ((zu kF hu).2.2.2.2.1)
      subst z12_
      subst z
      clear h0 hd
      rw [if_pos (by rfl)]
      go_simp
      exact unhide hK _ _ ⟨u0, u1, u2, u3, true, u5, u6, u7, u8, u9, u10, u11, false, sv, rfl, rfl, zu kB, zu kx11, zf⟩
    · intro h0 hd K hK
      have z : u5 = false := h0
      have z12_ : u12 = false := znb fun hu => z.symm.trans ((zu kF hu).2.2.2.2.2.1)
      subst z12_
      subst z
      clear h0 hd
      rw [if_pos (by rfl)]
      go_simp
      exact unhide hK _ _ ⟨u0, u1, u2, u3, u4, true, u6, u7, u8, u9, u10, u11, false, sv, rfl, rfl, zu kB, zu kx11, zf⟩
    · intro h0 hd K hK
      have z : u6 = false := h0
      have z12_ : u12 = false := znb fun hu => z.symm.trans ((zu kF hu).2.2.2.2.2.2.1)
      have zd : u5 = true := by
        simp [Region.binds] at hd
        simp [hd]
      obtain ⟨rfl⟩ := zd
      subst z12_
      subst z
      clear h0 hd
      rw [if_pos (by rfl)]
      have wq := unhide HW6
      go_simp
      exact unhide hK _ _ ⟨u0, u1, u2, u3, u4, true, true, u7, u8, u9, u10, u11, false, sv, rfl, rfl, zu kB, zu kx11, zf⟩
    · intro h0 hd K hK
      have z : u7 = false := h0
      have z12_ : u12 = false := znb fun hu => z.symm.trans ((zu kF hu).2.2.2.2.2.2.2.1)
      have zd : u4 = true ∧ u6 = true := by
        simp [Region.binds] at hd
        simp [hd]
      obtain ⟨rfl, rfl⟩ := zd
      subst z12_
      subst z
      clear h0 hd
      rw [if_pos (by rfl)]
      have q1 : j < n := unhide HX7
      have q2 : (j : Int) < (n : Int) := by omega
      go_simp
      exact unhide hK _ _ ⟨u0, u1, u2, u3, true, u5, true, true, u8, u9, u10, u11, false, sv, rfl, rfl, zu kB, zu kx11, zf⟩
    · intro h0 hd K hK
      have z : u8 = false := h0
      have z12_ : u12 = false := znb fun hu => z.symm.trans ((zu kF hu).2.2.2.2.2.2.2.2.1)
      have zd : u7 = true := by
        simp [Region.binds] at hd
        simp [hd]
      obtain ⟨rfl⟩ := zd
      subst z12_
      subst z
      clear h0 hd
      rw [if_pos (by rfl)]
      have c0 := keep1 (zu kB) (unhide HB0)
      have c1 := keep1 (zu kB) (unhide HB1)
      go_simp
      exact unhide hK _ _ ⟨u0, u1, u2, u3, u4, u5, u6, true, true, u9, u10, u11, false, sv, rfl, rfl, zu kB, zu kx11, zf⟩
    · intro h0 hd K hK
      have z : u9 = false := h0
      have z12_ : u12 = false := znb fun hu => z.symm.trans ((zu kF hu).2.2.2.2.2.2.2.2.2.1)
      subst z12_
      subst z
      clear h0 hd
      rw [if_pos (by rfl)]
      have c0 := keep1 (zu kB) (unhide HG0)
      have c1 := keep1 (zu kB) (unhide HG1)
      go_simp
      exact unhide hK _ _ ⟨u0, u1, u2, u3, u4, u5, u6, u7, u8, true, u10, u11, false, sv, rfl, rfl, zu kB, zu kx11, zf⟩
    · intro h0 hd K hK
      have z : u10 = false := h0
      have z12_ : u12 = false := znb fun hu => z.symm.trans ((zu kF hu).2.2.2.2.2.2.2.2.2.2.1)
      subst z12_
      subst z
      clear h0 hd
      rw [if_pos (by rfl)]
      have c0 := keep1 (zu kB) (unhide HH0)
      have c1 := keep1 (zu kB) (unhide HH1)
      go_simp
      exact unhide hK _ _ ⟨u0, u1, u2, u3, u4, u5, u6, u7, u8, u9, true, u11, false, sv, rfl, rfl, zu kB, zu kx11, zf⟩
    · intro h0 hd K hK
      have z : u11 = false := h0
      have z12_ : u12 = false := znb fun hu => z.symm.trans ((zu kF hu).2.2.2.2.2.2.2.2.2.2.2)
      have zd : u3 = true ∧ u8 = true ∧ u9 = true ∧ u10 = true := by
        simp [Region.binds] at hd
        simp [hd]
      obtain ⟨rfl, rfl, rfl, rfl⟩ := zd
      subst z12_
      subst z
      clear h0 hd
      rw [if_pos (by rfl)]
      go_simp
      refine (unhide HF11 W (zu kB)).mono ?_
      rintro e w8 ⟨⟨r_, rfl, hr_⟩, hb8⟩
      exact unhide hK _ _ ⟨u0, u1, u2, true, u4, u5, u6, u7, true, true, true, true, false, r_, rfl, rfl, bc (zu kB) hb8, (fun _ => hr_), zf⟩
    · intro h0 hd K hK
      have z : u12 = false := h0
      have zd0 : u0 = true ∧ u1 = true ∧ u2 = true ∧ u3 = true ∧ u4 = true ∧ u5 = true ∧ u6 = true ∧ u7 = true ∧ u8 = true ∧ u9 = true ∧ u10 = true ∧ u11 = true := by
        simp [Region.binds] at hd
        simp [hd]
      have zd : u0 = true ∧ u1 = true ∧ u2 = true ∧ u3 = true ∧ u4 = true ∧ u5 = true ∧ u6 = true ∧ u7 = true ∧ u8 = true ∧ u9 = true ∧ u10 = true ∧ u11 = true := ⟨zd0.1, zd0.2.1, zd0.2.2.1, zd0.2.2.2.1, zd0.2.2.2.2.1, zd0.2.2.2.2.2.1, zd0.2.2.2.2.2.2.1, zd0.2.2.2.2.2.2.2.1, zd0.2.2.2.2.2.2.2.2.1, zd0.2.2.2.2.2.2.2.2.2.1, zd0.2.2.2.2.2.2.2.2.2.2.1, zd0.2.2.2.2.2.2.2.2.2.2.2⟩
      obtain ⟨rfl, rfl, rfl, rfl, rfl, rfl, rfl, rfl, rfl, rfl, rfl, rfl⟩ := zd
      subst z
      clear h0 hd
      rw [if_pos (by rfl)]
      go_simp
      exact unhide hK _ _ ⟨true, true, true, true, true, true, true, true, true, true, true, true, true, sv, rfl, rfl, zu kB, zu kx11, (fun _ => ⟨rfl, rfl, rfl, rfl, rfl, rfl, rfl, rfl, rfl, rfl, rfl, rfl⟩)⟩
  case hend =>
    intro Lb A W hI
    obtain ⟨u0, u1, u2, u3, u4, hI⟩ := hI
    obtain ⟨u5, u6, u7, u8, u9, hI⟩ := hI
    obtain ⟨u10, u11, u12, sv, hI⟩ := hI
    obtain ⟨hLb, hI⟩ := hI
    obtain ⟨hA, hI⟩ := hI
    obtain ⟨kB, hI⟩ := hI
    obtain ⟨kx11, hI⟩ := hI
    have kF := hI
    clear hI
    subst hLb
    subst hA
    intro hL
    have hl : u0 = true ∧ u1 = true ∧ u2 = true ∧ u3 = true ∧ u4 = true ∧ u5 = true ∧ u6 = true ∧ u7 = true ∧ u8 = true ∧ u9 = true ∧ u10 = true ∧ u11 = true ∧ u12 = true := by
      have h2 := congrArg Array.toList hL
      simpa [List.replicate] using h2
    obtain ⟨rfl, rfl, rfl, rfl, rfl, rfl, rfl, rfl, rfl, rfl, rfl, rfl, rfl⟩ := hl
    exact unhide HQ  sv W kB (kx11 rfl)

end Go.Proofs.Ytimkinpbimangaa
