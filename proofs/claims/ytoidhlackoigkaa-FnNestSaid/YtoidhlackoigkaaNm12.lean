/-
  The statement of the model's l16Nest that draws its order: a spot more.
-/
import Derived.Test.YtoidhlackoigkaaNsNp
import Derived.Test.YtoidhlackoigkaaApN
import Derived.Test.YtoidhlackoigkaaInv2
import Derived.Test.YtoidhlackoigkaaWi23
namespace Go.Proofs.Ytoidhlackoigkaa
open Go.ChangeShapes Go.WideShapes Go.ChangeAt Go.RowKit
set_option linter.unusedVariables false
set_option linter.unusedSimpArgs false

noncomputable def rg26 (id : Nat) : Go.Code := match Try.f26.body with | some c => (regOfZ id c).getD .skip | none => .skip
set_option maxHeartbeats 4000000 in
set_option maxRecDepth 100000 in
theorem nm12 {s0 s1 s4 s5 s6 s7 s8 s9 s10 s12 s14 s16 s17 s18 s19 s20 s21 s22 s23 s24 s25 s26 s27 s28 s29 s30 s31 s32 s33 s34 s35 s36 s37 s38 s39 s40 s41 s42 s43 s44 s45 s46 s47 s48 s49 s50 s51 s52 s53 s54 s55 s56 s57 s58 s59 s60 s61 s62 s63 s64 s65 s66 s67 s68 s69 s70 s71 s72 s73 s74 s75 rv : Value} {ob oo co tb tf ct n g i B k : Nat} {o x y : Int} {t : Bool} {L : List Value} {V : World} {K_ : Act → World → Prop}
    (HO : Hid (V.cell? ⟨ob, oo + i, none⟩ = some (.int .i64 o))) (HT : Hid (V.cell? ⟨tb, tf + i, none⟩ = some (.bool t))) (HG0 : Hid (V.cell? ⟨g, 0, none⟩ = some (.int .i64 x))) (HG1 : Hid (V.cell? ⟨g, 1, none⟩ = some (.int .i64 y)))
    (HX : Hid (i < n)) (HR : Hid (V.ownsRow B 61 4 rv k L)) (hBV : B ≤ V.heap.size) (hk : k ≤ 100000)
    (hQ : ∀ (n14 : Nat) (r15 : Value) (W1 W9 : World), Below V.heap.size V W1 → W9.ownsRow B 61 4 r15 (k + 1) (L ++ [.int .i64 o, .int .i64 x, .int .i64 y, .bool t]) → W1.grownBy W9 rv.ownBlock → NewBlk W1 rv r15 → K_ { tmps := #[s0, s1, .slice (some ⟨ob, oo, none⟩) n co, .slice (some ⟨tb, tf, none⟩) n ct, s4, s5, s6, s7, s8, s9, s10, r15, s12, .int .i64 (i : Int), s14, .pointer (some ⟨g, 0, none⟩), s16, s17, s18, s19, s20, s21, s22, s23, s24, s25, s26, s27, s28, s29, s30, s31, s32, s33, s34, s35, s36, s37, s38, s39, s40, s41, s42, s43, s44, s45, s46, s47, s48, s49, s50, rv, .slice (some ⟨ob, oo, none⟩) n co, .int .i64 (i : Int), .pointer (some ⟨ob, oo + i, none⟩), .int .i64 o, .pointer (some ⟨g, 0, none⟩), .int .i64 x, .pointer (some ⟨g, 1, none⟩), .int .i64 y, .slice (some ⟨tb, tf, none⟩) n ct, .int .i64 (i : Int), .pointer (some ⟨tb, tf + i, none⟩), .bool t, .agg #[.int .i64 o, .int .i64 x, .int .i64 y, .bool t], .slice (some ⟨n14, 0, none⟩) 1 1, r15, s67, s68, s69, s70, s71, s72, s73, s74, s75], defers := [] } W9) :
    Go.Code.wp Try.prog (rg26 12) (Only K_) { tmps := #[s0, s1, .slice (some ⟨ob, oo, none⟩) n co, .slice (some ⟨tb, tf, none⟩) n ct, s4, s5, s6, s7, s8, s9, s10, rv, s12, .int .i64 (i : Int), s14, .pointer (some ⟨g, 0, none⟩), s16, s17, s18, s19, s20, s21, s22, s23, s24, s25, s26, s27, s28, s29, s30, s31, s32, s33, s34, s35, s36, s37, s38, s39, s40, s41, s42, s43, s44, s45, s46, s47, s48, s49, s50, s51, s52, s53, s54, s55, s56, s57, s58, s59, s60, s61, s62, s63, s64, s65, s66, s67, s68, s69, s70, s71, s72, s73, s74, s75], defers := [] } V := by
  have HQ := hide hQ
  clear hQ
  obtain ⟨iP, hi1, hy0, hy1, hy2⟩ := info_parts spot_info
  conv => arg 2; whnf
  refine wp_region_inv2 (fun Lb A W => ∃ (u0 u1 u2 u3 u4 u5 u6 u7 u8 u9 u10 u11 u12 u13 u14 u15 u16 : Bool) (n14 : Nat) (r15 : Value), Lb = #[u0, u1, u2, u3, u4, u5, u6, u7, u8, u9, u10, u11, u12, u13, u14, u15, u16] ∧ A = ({ tmps := #[s0, s1, .slice (some ⟨ob, oo, none⟩) n co, .slice (some ⟨tb, tf, none⟩) n ct, s4, s5, s6, s7, s8, s9, s10, (bif u16 then r15 else rv), s12, .int .i64 (i : Int), s14, .pointer (some ⟨g, 0, none⟩), s16, s17, s18, s19, s20, s21, s22, s23, s24, s25, s26, s27, s28, s29, s30, s31, s32, s33, s34, s35, s36, s37, s38, s39, s40, s41, s42, s43, s44, s45, s46, s47, s48, s49, s50, (bif u0 then rv else s51), (bif u1 then .slice (some ⟨ob, oo, none⟩) n co else s52), (bif u2 then .int .i64 (i : Int) else s53), (bif u3 then .pointer (some ⟨ob, oo + i, none⟩) else s54), (bif u4 then .int .i64 o else s55), (bif u5 then .pointer (some ⟨g, 0, none⟩) else s56), (bif u6 then .int .i64 x else s57), (bif u7 then .pointer (some ⟨g, 1, none⟩) else s58), (bif u8 then .int .i64 y else s59), (bif u9 then .slice (some ⟨tb, tf, none⟩) n ct else s60), (bif u10 then .int .i64 (i : Int) else s61), (bif u11 then .pointer (some ⟨tb, tf + i, none⟩) else s62), (bif u12 then .bool t else s63), (bif u13 then .agg #[.int .i64 o, .int .i64 x, .int .i64 y, .bool t] else s64), (bif u14 then .slice (some ⟨n14, 0, none⟩) 1 1 else s65), (bif u15 then r15 else s66), s67, s68, s69, s70, s71, s72, s73, s74, s75], defers := [] } : Act) ∧ (u15 = false → Below V.heap.size V W) ∧ (u14 = true → u15 = false → vb W n14 61 [.int .i64 o, .int .i64 x, .int .i64 y, .bool t]) ∧ (u15 = true → ∃ W1, Below V.heap.size V W1 ∧ W.ownsRow B 61 4 r15 (k + 1) (L ++ [.int .i64 o, .int .i64 x, .int .i64 y, .bool t]) ∧ W1.grownBy W rv.ownBlock ∧ NewBlk W1 rv r15) ∧ (u3 = true → u1 = true ∧ u2 = true) ∧ (u4 = true → u3 = true) ∧ (u6 = true → u5 = true) ∧ (u8 = true → u7 = true) ∧ (u11 = true → u9 = true ∧ u10 = true) ∧ (u12 = true → u11 = true) ∧ (u13 = true → u4 = true ∧ u6 = true ∧ u8 = true ∧ u12 = true) ∧ (u14 = true → u13 = true) ∧ (u15 = true → u0 = true ∧ u14 = true) ∧ (u16 = true → u0 = true ∧ u1 = true ∧ u2 = true ∧ u3 = true ∧ u4 = true ∧ u5 = true ∧ u6 = true ∧ u7 = true ∧ u8 = true ∧ u9 = true ∧ u10 = true ∧ u11 = true ∧ u12 = true ∧ u13 = true ∧ u14 = true ∧ u15 = true)) (by kernel_rfl) (by kernel_rfl) ?h0 ?hstep ?hend
  case h0 =>
    exact ⟨false, false, false, false, false, false, false, false, false, false, false, false, false, false, false, false, false, 0, undef, rfl, rfl, (fun _ => Below.drew (Below.refl _ _)), zf, zf, zf, zf, zf, zf, zf, zf, zf, zf, zf, zf⟩
  case hstep =>
    intro Lb A W hI
    obtain ⟨u0, u1, u2, u3, u4, hI⟩ := hI
    obtain ⟨u5, u6, u7, u8, u9, hI⟩ := hI
    obtain ⟨u10, u11, u12, u13, u14, hI⟩ := hI
    obtain ⟨u15, u16, n14, r15, hI⟩ := hI
    obtain ⟨hLb, hI⟩ := hI
    obtain ⟨hA, hI⟩ := hI
    obtain ⟨kB, hI⟩ := hI
    obtain ⟨k14, hI⟩ := hI
    obtain ⟨kZ, hI⟩ := hI
    obtain ⟨l3, hI⟩ := hI
    obtain ⟨l4, hI⟩ := hI
    obtain ⟨l6, hI⟩ := hI
    obtain ⟨l8, hI⟩ := hI
    obtain ⟨l11, hI⟩ := hI
    obtain ⟨l12, hI⟩ := hI
    obtain ⟨l13, hI⟩ := hI
    obtain ⟨l14, hI⟩ := hI
    obtain ⟨l15, hI⟩ := hI
    have kF := hI
    clear hI
    subst hLb
    subst hA
    replace kB := hide kB
    replace k14 := hide k14
    replace kZ := hide kZ
    replace l3 := hide l3
    replace l4 := hide l4
    replace l6 := hide l6
    replace l8 := hide l8
    replace l11 := hide l11
    replace l12 := hide l12
    replace l13 := hide l13
    replace l14 := hide l14
    replace l15 := hide l15
    replace kF := hide kF
    refine ⟨?_, ?_, ?_, ?_, ?_, ?_, ?_, ?_, ?_, ?_, ?_, ?_, ?_, ?_, ?_, ?_, ?_, trivial⟩
    · intro h0 hd K hK
      have z : u0 = false := h0
      have z16_ : u16 = false := znb fun hu => z.symm.trans ((zu kF hu).1)
      have z15_ : u15 = false := znb fun hu => z.symm.trans ((zu l15 hu).1)
      subst z16_
      subst z15_
      subst z
      clear h0 hd
      rw [if_pos (by rfl)]
      go_simp
      exact unhide hK _ _ ⟨true, u1, u2, u3, u4, u5, u6, u7, u8, u9, u10, u11, u12, u13, u14, false, false, n14, r15, rfl, rfl, zu kB, zu k14, zf, zu l3, zu l4, zu l6, zu l8, zu l11, zu l12, zu l13, zu l14, zf, zf⟩
    · intro h0 hd K hK
      have z : u1 = false := h0
      have z16_ : u16 = false := znb fun hu => z.symm.trans ((zu kF hu).2.1)
      have z15_ : u15 = false := znb fun hu => z.symm.trans ((zu l3 (zu l4 (zu l13 (zu l14 (zu l15 hu).2)).1)).1)
      subst z16_
      subst z15_
      subst z
      clear h0 hd
      rw [if_pos (by rfl)]
      go_simp
      exact unhide hK _ _ ⟨u0, true, u2, u3, u4, u5, u6, u7, u8, u9, u10, u11, u12, u13, u14, false, false, n14, r15, rfl, rfl, zu kB, zu k14, zf, (fun h => ⟨rfl, (zu l3 h).2⟩), zu l4, zu l6, zu l8, zu l11, zu l12, zu l13, zu l14, zf, zf⟩
    · intro h0 hd K hK
      have z : u2 = false := h0
      have z16_ : u16 = false := znb fun hu => z.symm.trans ((zu kF hu).2.2.1)
      have z15_ : u15 = false := znb fun hu => z.symm.trans ((zu l3 (zu l4 (zu l13 (zu l14 (zu l15 hu).2)).1)).2)
      subst z16_
      subst z15_
      subst z
      clear h0 hd
      rw [if_pos (by rfl)]
      go_simp
      exact unhide hK _ _ ⟨u0, u1, true, u3, u4, u5, u6, u7, u8, u9, u10, u11, u12, u13, u14, false, false, n14, r15, rfl, rfl, zu kB, zu k14, zf, (fun h => ⟨(zu l3 h).1, rfl⟩), zu l4, zu l6, zu l8, zu l11, zu l12, zu l13, zu l14, zf, zf⟩
    · intro h0 hd K hK
      have z : u3 = false := h0
      have z16_ : u16 = false := znb fun hu => z.symm.trans ((zu kF hu).2.2.2.1)
      have z15_ : u15 = false := znb fun hu => z.symm.trans ((zu l4 (zu l13 (zu l14 (zu l15 hu).2)).1))
      have zd : u1 = true ∧ u2 = true := by
        simp [Region.binds] at hd
        simp [hd]
      obtain ⟨rfl, rfl⟩ := zd
      subst z16_
      subst z15_
      subst z
      clear h0 hd
      rw [if_pos (by rfl)]
      have q1 : i < n := unhide HX
      have q2 : (i : Int) < (n : Int) := by omega
      go_simp
      exact unhide hK _ _ ⟨u0, true, true, true, u4, u5, u6, u7, u8, u9, u10, u11, u12, u13, u14, false, false, n14, r15, rfl, rfl, zu kB, zu k14, zf, (fun _ => ⟨rfl, rfl⟩), (fun h => rfl), zu l6, zu l8, zu l11, zu l12, zu l13, zu l14, zf, zf⟩
    · intro h0 hd K hK
      have z : u4 = false := h0
      have z16_ : u16 = false := znb fun hu => z.symm.trans ((zu kF hu).2.2.2.2.1)
      have z15_ : u15 = false := znb fun hu => z.symm.trans ((zu l13 (zu l14 (zu l15 hu).2)).1)
      have zd : u3 = true := by
        simp [Region.binds] at hd
        simp [hd]
      obtain ⟨rfl⟩ := zd
      subst z16_
      subst z15_
      subst z
      clear h0 hd
      rw [if_pos (by rfl)]
      have c0 := keep1 (zu kB rfl) (unhide HO)
      go_simp
      exact unhide hK _ _ ⟨u0, u1, u2, true, true, u5, u6, u7, u8, u9, u10, u11, u12, u13, u14, false, false, n14, r15, rfl, rfl, zu kB, zu k14, zf, zu l3, (fun _ => rfl), zu l6, zu l8, zu l11, zu l12, (fun h => ⟨rfl, (zu l13 h).2.1, (zu l13 h).2.2.1, (zu l13 h).2.2.2⟩), zu l14, zf, zf⟩
    · intro h0 hd K hK
      have z : u5 = false := h0
      have z16_ : u16 = false := znb fun hu => z.symm.trans ((zu kF hu).2.2.2.2.2.1)
      have z15_ : u15 = false := znb fun hu => z.symm.trans ((zu l6 (zu l13 (zu l14 (zu l15 hu).2)).2.1))
      subst z16_
      subst z15_
      subst z
      clear h0 hd
      rw [if_pos (by rfl)]
      go_simp
      exact unhide hK _ _ ⟨u0, u1, u2, u3, u4, true, u6, u7, u8, u9, u10, u11, u12, u13, u14, false, false, n14, r15, rfl, rfl, zu kB, zu k14, zf, zu l3, zu l4, (fun h => rfl), zu l8, zu l11, zu l12, zu l13, zu l14, zf, zf⟩
    · intro h0 hd K hK
      have z : u6 = false := h0
      have z16_ : u16 = false := znb fun hu => z.symm.trans ((zu kF hu).2.2.2.2.2.2.1)
      have z15_ : u15 = false := znb fun hu => z.symm.trans ((zu l13 (zu l14 (zu l15 hu).2)).2.1)
      have zd : u5 = true := by
        simp [Region.binds] at hd
        simp [hd]
      obtain ⟨rfl⟩ := zd
      subst z16_
      subst z15_
      subst z
      clear h0 hd
      rw [if_pos (by rfl)]
      have c0 := keep1 (zu kB rfl) (unhide HG0)
      go_simp
      exact unhide hK _ _ ⟨u0, u1, u2, u3, u4, true, true, u7, u8, u9, u10, u11, u12, u13, u14, false, false, n14, r15, rfl, rfl, zu kB, zu k14, zf, zu l3, zu l4, (fun _ => rfl), zu l8, zu l11, zu l12, (fun h => ⟨(zu l13 h).1, rfl, (zu l13 h).2.2.1, (zu l13 h).2.2.2⟩), zu l14, zf, zf⟩
    · intro h0 hd K hK
      have z : u7 = false := h0
      have z16_ : u16 = false := znb fun hu => z.symm.trans ((zu kF hu).2.2.2.2.2.2.2.1)
      have z15_ : u15 = false := znb fun hu => z.symm.trans ((zu l8 (zu l13 (zu l14 (zu l15 hu).2)).2.2.1))
      subst z16_
      subst z15_
      subst z
      clear h0 hd
      rw [if_pos (by rfl)]
      go_simp
      exact unhide hK _ _ ⟨u0, u1, u2, u3, u4, u5, u6, true, u8, u9, u10, u11, u12, u13, u14, false, false, n14, r15, rfl, rfl, zu kB, zu k14, zf, zu l3, zu l4, zu l6, (fun h => rfl), zu l11, zu l12, zu l13, zu l14, zf, zf⟩
    · intro h0 hd K hK
      have z : u8 = false := h0
      have z16_ : u16 = false := znb fun hu => z.symm.trans ((zu kF hu).2.2.2.2.2.2.2.2.1)
      have z15_ : u15 = false := znb fun hu => z.symm.trans ((zu l13 (zu l14 (zu l15 hu).2)).2.2.1)
      have zd : u7 = true := by
        simp [Region.binds] at hd
        simp [hd]
      obtain ⟨rfl⟩ := zd
      subst z16_
      subst z15_
      subst z
      clear h0 hd
      rw [if_pos (by rfl)]
      have c0 := keep1 (zu kB rfl) (unhide HG1)
      go_simp
      exact unhide hK _ _ ⟨u0, u1, u2, u3, u4, u5, u6, true, true, u9, u10, u11, u12, u13, u14, false, false, n14, r15, rfl, rfl, zu kB, zu k14, zf, zu l3, zu l4, zu l6, (fun _ => rfl), zu l11, zu l12, (fun h => ⟨(zu l13 h).1, (zu l13 h).2.1, rfl, (zu l13 h).2.2.2⟩), zu l14, zf, zf⟩
    · intro h0 hd K hK
      have z : u9 = false := h0
      have z16_ : u16 = false := znb fun hu => z.symm.trans ((zu kF hu).2.2.2.2.2.2.2.2.2.1)
      have z15_ : u15 = false := znb fun hu => z.symm.trans ((zu l11 (zu l12 (zu l13 (zu l14 (zu l15 hu).2)).2.2.2)).1)
      subst z16_
      subst z15_
      subst z
      clear h0 hd
      rw [if_pos (by rfl)]
      go_simp
      exact unhide hK _ _ ⟨u0, u1, u2, u3, u4, u5, u6, u7, u8, true, u10, u11, u12, u13, u14, false, false, n14, r15, rfl, rfl, zu kB, zu k14, zf, zu l3, zu l4, zu l6, zu l8, (fun h => ⟨rfl, (zu l11 h).2⟩), zu l12, zu l13, zu l14, zf, zf⟩
    · intro h0 hd K hK
      have z : u10 = false := h0
      have z16_ : u16 = false := znb fun hu => z.symm.trans ((zu kF hu).2.2.2.2.2.2.2.2.2.2.1)
      have z15_ : u15 = false := znb fun hu => z.symm.trans ((zu l11 (zu l12 (zu l13 (zu l14 (zu l15 hu).2)).2.2.2)).2)
      subst z16_
      subst z15_
      subst z
      clear h0 hd
      rw [if_pos (by rfl)]
      go_simp
      exact unhide hK _ _ ⟨u0, u1, u2, u3, u4, u5, u6, u7, u8, u9, true, u11, u12, u13, u14, false, false, n14, r15, rfl, rfl, zu kB, zu k14, zf, zu l3, zu l4, zu l6, zu l8, (fun h => ⟨(zu l11 h).1, rfl⟩), zu l12, zu l13, zu l14, zf, zf⟩
    · intro h0 hd K hK
      have z : u11 = false := h0
      have z16_ : u16 = false := znb fun hu => z.symm.trans ((zu kF hu).2.2.2.2.2.2.2.2.2.2.2.1)
      have z15_ : u15 = false := znb fun hu => z.symm.trans ((zu l12 (zu l13 (zu l14 (zu l15 hu).2)).2.2.2))
      have zd : u9 = true ∧ u10 = true := by
        simp [Region.binds] at hd
        simp [hd]
      obtain ⟨rfl, rfl⟩ := zd
      subst z16_
      subst z15_
      subst z
      clear h0 hd
      rw [if_pos (by rfl)]
      have q1 : i < n := unhide HX
      have q2 : (i : Int) < (n : Int) := by omega
      go_simp
      exact unhide hK _ _ ⟨u0, u1, u2, u3, u4, u5, u6, u7, u8, true, true, true, u12, u13, u14, false, false, n14, r15, rfl, rfl, zu kB, zu k14, zf, zu l3, zu l4, zu l6, zu l8, (fun _ => ⟨rfl, rfl⟩), (fun h => rfl), zu l13, zu l14, zf, zf⟩
    · intro h0 hd K hK
      have z : u12 = false := h0
      have z16_ : u16 = false := znb fun hu => z.symm.trans ((zu kF hu).2.2.2.2.2.2.2.2.2.2.2.2.1)
      have z15_ : u15 = false := znb fun hu => z.symm.trans ((zu l13 (zu l14 (zu l15 hu).2)).2.2.2)
      have zd : u11 = true := by
        simp [Region.binds] at hd
        simp [hd]
      obtain ⟨rfl⟩ := zd
      subst z16_
      subst z15_
      subst z
      clear h0 hd
      rw [if_pos (by rfl)]
      have c0 := keep1 (zu kB rfl) (unhide HT)
      go_simp
      exact unhide hK _ _ ⟨u0, u1, u2, u3, u4, u5, u6, u7, u8, u9, u10, true, true, u13, u14, false, false, n14, r15, rfl, rfl, zu kB, zu k14, zf, zu l3, zu l4, zu l6, zu l8, zu l11, (fun _ => rfl), (fun h => ⟨(zu l13 h).1, (zu l13 h).2.1, (zu l13 h).2.2.1, rfl⟩), zu l14, zf, zf⟩
    · intro h0 hd K hK
      have z : u13 = false := h0
      have z16_ : u16 = false := znb fun hu => z.symm.trans ((zu kF hu).2.2.2.2.2.2.2.2.2.2.2.2.2.1)
      have z15_ : u15 = false := znb fun hu => z.symm.trans ((zu l14 (zu l15 hu).2))
      have zd : u4 = true ∧ u6 = true ∧ u8 = true ∧ u12 = true := by
        simp [Region.binds] at hd
        simp [hd]
      obtain ⟨rfl, rfl, rfl, rfl⟩ := zd
      subst z16_
      subst z15_
      subst z
      clear h0 hd
      rw [if_pos (by rfl)]
      go_simp
      exact unhide hK _ _ ⟨u0, u1, u2, u3, true, u5, true, u7, true, u9, u10, u11, true, true, u14, false, false, n14, r15, rfl, rfl, zu kB, zu k14, zf, zu l3, zu l4, zu l6, zu l8, zu l11, zu l12, (fun _ => ⟨rfl, rfl, rfl, rfl⟩), (fun h => rfl), zf, zf⟩
    · intro h0 hd K hK
      have z : u14 = false := h0
      have z16_ : u16 = false := znb fun hu => z.symm.trans ((zu kF hu).2.2.2.2.2.2.2.2.2.2.2.2.2.2.1)
      have z15_ : u15 = false := znb fun hu => z.symm.trans ((zu l15 hu).2)
      have zd : u13 = true := by
        simp [Region.binds] at hd
        simp [hd]
      obtain ⟨rfl⟩ := zd
      subst z16_
      subst z15_
      subst z
      clear h0 hd
      rw [if_pos (by rfl)]
      go_simp
      exact unhide hK _ _ ⟨u0, u1, u2, u3, u4, u5, u6, u7, u8, u9, u10, u11, u12, true, true, false, false, W.heap.size, r15, rfl, rfl, (fun _ => ba (zu kB rfl) _), (fun _ _ => vb_new W 61 [.int .i64 o, .int .i64 x, .int .i64 y, .bool t] _ rfl), zf, zu l3, zu l4, zu l6, zu l8, zu l11, zu l12, zu l13, (fun _ => rfl), zf, zf⟩
    · intro h0 hd K hK
      have z : u15 = false := h0
      have z16_ : u16 = false := znb fun hu => z.symm.trans ((zu kF hu).2.2.2.2.2.2.2.2.2.2.2.2.2.2.2)
      have zd : u0 = true ∧ u14 = true := by
        simp [Region.binds] at hd
        simp [hd]
      obtain ⟨rfl, rfl⟩ := zd
      subst z16_
      subst z
      clear h0 hd
      rw [if_pos (by rfl)]
      have h7 := zu k14 rfl rfl
      have hb := (zu kB rfl)
      refine wp_append_new W (.tmp 51) (.tmp 65) 26 (by rfl) B 61 iP _ 4 32 Try.underlying26 hi1 hy0 hy1 hy2 rfl (by decide) rv k L (by rfl) (own_bel (unhide HR) hb) ⟨n14, 0, none⟩ 1 1 [.int .i64 o, .int .i64 x, .int .i64 y, .bool t] (by rfl) (by rfl) (src_any h7) (by simp [Value.oneCell']) (by unfold maxLen; omega) (by omega) (Nat.le_trans hBV hb.size) ?_
      intro r8' w1 hown' hgrow _ hnb
      go_simp
      exact unhide hK _ _ ⟨true, u1, u2, u3, u4, u5, u6, u7, u8, u9, u10, u11, u12, u13, true, true, false, n14, r8', rfl, rfl, zt, (fun _ => zt), (fun _ => ⟨W, hb, hown', hgrow, hnb⟩), zu l3, zu l4, zu l6, zu l8, zu l11, zu l12, zu l13, zu l14, (fun _ => ⟨rfl, rfl⟩), zf⟩
    · intro h0 hd K hK
      have z : u16 = false := h0
      have zd0 : u15 = true ∧ u0 = true := by
        simp [Region.binds] at hd
        simp [hd]
      have zd : u15 = true ∧ u0 = true ∧ u1 = true ∧ u2 = true ∧ u3 = true ∧ u4 = true ∧ u5 = true ∧ u6 = true ∧ u7 = true ∧ u8 = true ∧ u9 = true ∧ u10 = true ∧ u11 = true ∧ u12 = true ∧ u13 = true ∧ u14 = true := ⟨zd0.1, zd0.2, (zu l3 (zu l4 (zu l13 (zu l14 (zu l15 zd0.1).2)).1)).1, (zu l3 (zu l4 (zu l13 (zu l14 (zu l15 zd0.1).2)).1)).2, (zu l4 (zu l13 (zu l14 (zu l15 zd0.1).2)).1), (zu l13 (zu l14 (zu l15 zd0.1).2)).1, (zu l6 (zu l13 (zu l14 (zu l15 zd0.1).2)).2.1), (zu l13 (zu l14 (zu l15 zd0.1).2)).2.1, (zu l8 (zu l13 (zu l14 (zu l15 zd0.1).2)).2.2.1), (zu l13 (zu l14 (zu l15 zd0.1).2)).2.2.1, (zu l11 (zu l12 (zu l13 (zu l14 (zu l15 zd0.1).2)).2.2.2)).1, (zu l11 (zu l12 (zu l13 (zu l14 (zu l15 zd0.1).2)).2.2.2)).2, (zu l12 (zu l13 (zu l14 (zu l15 zd0.1).2)).2.2.2), (zu l13 (zu l14 (zu l15 zd0.1).2)).2.2.2, (zu l14 (zu l15 zd0.1).2), (zu l15 zd0.1).2⟩
      obtain ⟨rfl, rfl, rfl, rfl, rfl, rfl, rfl, rfl, rfl, rfl, rfl, rfl, rfl, rfl, rfl, rfl⟩ := zd
      subst z
      clear h0 hd
      rw [if_pos (by rfl)]
      go_simp
      exact unhide hK _ _ ⟨true, true, true, true, true, true, true, true, true, true, true, true, true, true, true, true, true, n14, r15, rfl, rfl, zu kB, (fun _ => zt), zu kZ, (fun _ => ⟨rfl, rfl⟩), (fun _ => rfl), (fun _ => rfl), (fun _ => rfl), (fun _ => ⟨rfl, rfl⟩), (fun _ => rfl), (fun _ => ⟨rfl, rfl, rfl, rfl⟩), (fun _ => rfl), (fun _ => ⟨rfl, rfl⟩), (fun _ => ⟨rfl, rfl, rfl, rfl, rfl, rfl, rfl, rfl, rfl, rfl, rfl, rfl, rfl, rfl, rfl, rfl⟩)⟩
  case hend =>
    intro Lb A W hI
    obtain ⟨u0, u1, u2, u3, u4, hI⟩ := hI
    obtain ⟨u5, u6, u7, u8, u9, hI⟩ := hI
    obtain ⟨u10, u11, u12, u13, u14, hI⟩ := hI
    obtain ⟨u15, u16, n14, r15, hI⟩ := hI
    obtain ⟨hLb, hI⟩ := hI
    obtain ⟨hA, hI⟩ := hI
    obtain ⟨kB, hI⟩ := hI
    obtain ⟨k14, hI⟩ := hI
    obtain ⟨kZ, hI⟩ := hI
    obtain ⟨l3, hI⟩ := hI
    obtain ⟨l4, hI⟩ := hI
    obtain ⟨l6, hI⟩ := hI
    obtain ⟨l8, hI⟩ := hI
    obtain ⟨l11, hI⟩ := hI
    obtain ⟨l12, hI⟩ := hI
    obtain ⟨l13, hI⟩ := hI
    obtain ⟨l14, hI⟩ := hI
    obtain ⟨l15, hI⟩ := hI
    have kF := hI
    clear hI
    subst hLb
    subst hA
    intro hL
    have hl : u0 = true ∧ u1 = true ∧ u2 = true ∧ u3 = true ∧ u4 = true ∧ u5 = true ∧ u6 = true ∧ u7 = true ∧ u8 = true ∧ u9 = true ∧ u10 = true ∧ u11 = true ∧ u12 = true ∧ u13 = true ∧ u14 = true ∧ u15 = true ∧ u16 = true := by
      have h2 := congrArg Array.toList hL
      simpa [List.replicate] using h2
    obtain ⟨rfl, rfl, rfl, rfl, rfl, rfl, rfl, rfl, rfl, rfl, rfl, rfl, rfl, rfl, rfl, rfl, rfl⟩ := hl
    obtain ⟨W1, z1, z2, z3, z4⟩ := kZ rfl
    exact unhide HQ n14 r15 W1 W z1 z2 z3 z4

end Go.Proofs.Ytoidhlackoigkaa
