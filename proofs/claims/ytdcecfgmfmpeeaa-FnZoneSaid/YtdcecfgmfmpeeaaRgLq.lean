/-
  A statement of notObtuse that draws its order, walked alone.
-/
import Derived.Test.YtdcecfgmfmpeeaaZalq
namespace Go.Proofs.Ytdcecfgmfmpeeaa
open Go.ChangeShapes Go.WideShapes Go.ChangeAt Go.RowKit
set_option linter.unusedVariables false
set_option linter.unusedSimpArgs false
noncomputable def rg69 (id : Nat) : Go.Code := match Try.f69.body with | some c => (regOfZ id c).getD .skip | none => .skip
set_option maxHeartbeats 4000000 in
set_option maxRecDepth 100000 in
theorem no10 {s2 s3 s4 s5 s8 s10 s11 s12 s13 s14 s15 s16 s17 s18 s19 s20 s21 s22 s23 s24 s25 s26 s27 s28 s29 s30 s31 s32 s33 s34 s35 s36 s37 s38 s39 s40 s41 s42 s43 s44 s45 s46 s47 s48 s49 s50 s51 s52 s53 s54 s55 s56 s57 s58 s59 s60 s61 : Value} {b rb n cap m rcap a j k c : Nat} {x0 y0 x1 y1 x2 y2 : Int} {ob : Bool} {V : World} {K_ : Act → World → Prop} 
  (HA0 : Hid (V.cell? ⟨b, a * 2, none⟩ = some (.int .i64 (x0)))) (HA1 : Hid (V.cell? ⟨b, a * 2 + 1, none⟩ = some (.int .i64 (y0)))) (HR : Hid (V.cell? ⟨rb, j, none⟩ = some (.int .i64 (k : Int)))) (HK0 : Hid (V.cell? ⟨b, k * 2, none⟩ = some (.int .i64 (x1)))) (HK1 : Hid (V.cell? ⟨b, k * 2 + 1, none⟩ = some (.int .i64 (y1)))) (HC0 : Hid (V.cell? ⟨b, c * 2, none⟩ = some (.int .i64 (x2)))) (HC1 : Hid (V.cell? ⟨b, c * 2 + 1, none⟩ = some (.int .i64 (y2)))) 
  (HX2 : Hid (a < n))
  (HX7 : Hid (j < m))
  (HX9 : Hid (k < n))
  (HX13 : Hid (c < n))
  (HF17 : Hid (∀ n16 : Nat, ∀ Xw, Below V.heap.size V Xw → cb Xw n16 97 [.int .i64 (x0), .int .i64 (y0), .int .i64 (x1), .int .i64 (y1), .int .i64 (x2), .int .i64 (y2)] → Calls Try.prog 90 #[.pointer (some ⟨n16, 0, none⟩)] Xw fun e w' => e = .returned (.bool (ob)) ∧ Below Xw.heap.size Xw w'))
  (hQ : ∀ (n16 : Nat) (W1 : World), Below V.heap.size V W1 → cb W1 n16 97 [.int .i64 (x0), .int .i64 (y0), .int .i64 (x1), .int .i64 (y1), .int .i64 (x2), .int .i64 (y2)] → V.heap.size ≤ n16 → K_ { tmps := #[.slice (some ⟨b, 0, none⟩) n cap, .slice (some ⟨rb, 0, none⟩) m rcap, s2, s3, s4, s5, .int .i64 (a : Int), .int .i64 (j : Int), s8, .int .i64 (c : Int), s10, s11, s12, s13, s14, s15, s16, s17, s18, s19, s20, s21, s22, s23, s24, s25, s26, s27, s28, s29, s30, s31, s32, s33, .slice (some ⟨b, 0, none⟩) n cap, .int .i64 (a : Int), .pointer (some ⟨b, a * 2, none⟩), .agg #[.int .i64 (x0), .int .i64 (y0)], .slice (some ⟨b, 0, none⟩) n cap, .slice (some ⟨rb, 0, none⟩) m rcap, .int .i64 (j : Int), .pointer (some ⟨rb, j, none⟩), .int .i64 (k : Int), .pointer (some ⟨b, k * 2, none⟩), .agg #[.int .i64 (x1), .int .i64 (y1)], .slice (some ⟨b, 0, none⟩) n cap, .int .i64 (c : Int), .pointer (some ⟨b, c * 2, none⟩), .agg #[.int .i64 (x2), .int .i64 (y2)], .agg #[.int .i64 (x0), .int .i64 (y0), .int .i64 (x1), .int .i64 (y1), .int .i64 (x2), .int .i64 (y2)], .pointer (some ⟨n16, 0, none⟩), .bool (ob), .bool (!ob), s53, s54, s55, s56, s57, s58, s59, s60, s61], defers := [] } W1) :
  Go.Code.wp Try.prog (rg69 10) (Only K_) { tmps := #[.slice (some ⟨b, 0, none⟩) n cap, .slice (some ⟨rb, 0, none⟩) m rcap, s2, s3, s4, s5, .int .i64 (a : Int), .int .i64 (j : Int), s8, .int .i64 (c : Int), s10, s11, s12, s13, s14, s15, s16, s17, s18, s19, s20, s21, s22, s23, s24, s25, s26, s27, s28, s29, s30, s31, s32, s33, s34, s35, s36, s37, s38, s39, s40, s41, s42, s43, s44, s45, s46, s47, s48, s49, s50, s51, s52, s53, s54, s55, s56, s57, s58, s59, s60, s61], defers := [] } V := by
 have HQ := hide hQ
 clear hQ
 conv => arg 2; whnf
 refine wp_region_inv2 (fun Lb A W => ∃ (u0 u1 u2 u3 u4 u5 u6 u7 u8 u9 u10 u11 u12 u13 u14 u15 u16 u17 u18 : Bool) (n16 : Nat), Lb = #[u0, u1, u2, u3, u4, u5, u6, u7, u8, u9, u10, u11, u12, u13, u14, u15, u16, u17, u18] ∧ A = ({ tmps := #[.slice (some ⟨b, 0, none⟩) n cap, .slice (some ⟨rb, 0, none⟩) m rcap, s2, s3, s4, s5, .int .i64 (a : Int), .int .i64 (j : Int), s8, .int .i64 (c : Int), s10, s11, s12, s13, s14, s15, s16, s17, s18, s19, s20, s21, s22, s23, s24, s25, s26, s27, s28, s29, s30, s31, s32, s33, (bif u0 then .slice (some ⟨b, 0, none⟩) n cap else s34), (bif u1 then .int .i64 (a : Int) else s35), (bif u2 then .pointer (some ⟨b, a * 2, none⟩) else s36), (bif u3 then .agg #[.int .i64 (x0), .int .i64 (y0)] else s37), (bif u4 then .slice (some ⟨b, 0, none⟩) n cap else s38), (bif u5 then .slice (some ⟨rb, 0, none⟩) m rcap else s39), (bif u6 then .int .i64 (j : Int) else s40), (bif u7 then .pointer (some ⟨rb, j, none⟩) else s41), (bif u8 then .int .i64 (k : Int) else s42), (bif u9 then .pointer (some ⟨b, k * 2, none⟩) else s43), (bif u10 then .agg #[.int .i64 (x1), .int .i64 (y1)] else s44), (bif u11 then .slice (some ⟨b, 0, none⟩) n cap else s45), (bif u12 then .int .i64 (c : Int) else s46), (bif u13 then .pointer (some ⟨b, c * 2, none⟩) else s47), (bif u14 then .agg #[.int .i64 (x2), .int .i64 (y2)] else s48), (bif u15 then .agg #[.int .i64 (x0), .int .i64 (y0), .int .i64 (x1), .int .i64 (y1), .int .i64 (x2), .int .i64 (y2)] else s49), (bif u16 then .pointer (some ⟨n16, 0, none⟩) else s50), (bif u17 then .bool (ob) else s51), (bif u18 then .bool (!ob) else s52), s53, s54, s55, s56, s57, s58, s59, s60, s61], defers := [] } : Act) ∧ Below V.heap.size V W ∧ (u16 = true → cb W n16 97 [.int .i64 (x0), .int .i64 (y0), .int .i64 (x1), .int .i64 (y1), .int .i64 (x2), .int .i64 (y2)] ∧ V.heap.size ≤ n16) ∧ (u2 = true → u0 = true ∧ u1 = true) ∧ (u3 = true → u2 = true) ∧ (u7 = true → u5 = true ∧ u6 = true) ∧ (u8 = true → u7 = true) ∧ (u9 = true → u4 = true ∧ u8 = true) ∧ (u10 = true → u9 = true) ∧ (u13 = true → u11 = true ∧ u12 = true) ∧ (u14 = true → u13 = true) ∧ (u15 = true → u3 = true ∧ u10 = true ∧ u14 = true) ∧ (u16 = true → u15 = true) ∧ (u17 = true → u16 = true) ∧ (u18 = true → u0 = true ∧ u1 = true ∧ u2 = true ∧ u3 = true ∧ u4 = true ∧ u5 = true ∧ u6 = true ∧ u7 = true ∧ u8 = true ∧ u9 = true ∧ u10 = true ∧ u11 = true ∧ u12 = true ∧ u13 = true ∧ u14 = true ∧ u15 = true ∧ u16 = true ∧ u17 = true)) (by kernel_rfl) (by kernel_rfl) ?h0 ?hstep ?hend
 case h0 =>
  exact ⟨false, false, false, false, false, false, false, false, false, false, false, false, false, false, false, false, false, false, false, 0, rfl, rfl, Below.drew (Below.refl _ _), zf, zf, zf, zf, zf, zf, zf, zf, zf, zf, zf, zf, zf⟩
 case hstep =>
  intro Lb A W hI
  obtain ⟨u0, u1, u2, u3, u4, hI⟩ := hI
  obtain ⟨u5, u6, u7, u8, u9, hI⟩ := hI
  obtain ⟨u10, u11, u12, u13, u14, hI⟩ := hI
  obtain ⟨u15, u16, u17, u18, n16, hI⟩ := hI
  obtain ⟨hLb, hI⟩ := hI
  obtain ⟨hA, hI⟩ := hI
  obtain ⟨kB, hI⟩ := hI
  obtain ⟨k16, hI⟩ := hI
  obtain ⟨l2, hI⟩ := hI
  obtain ⟨l3, hI⟩ := hI
  obtain ⟨l7, hI⟩ := hI
  obtain ⟨l8, hI⟩ := hI
  obtain ⟨l9, hI⟩ := hI
  obtain ⟨l10, hI⟩ := hI
  obtain ⟨l13, hI⟩ := hI
  obtain ⟨l14, hI⟩ := hI
  obtain ⟨l15, hI⟩ := hI
  obtain ⟨l16, hI⟩ := hI
  obtain ⟨l17, hI⟩ := hI
  have kF := hI
  clear hI
  subst hLb
  subst hA
  replace kB := hide kB
  replace k16 := hide k16
  replace l2 := hide l2
  replace l3 := hide l3
  replace l7 := hide l7
  replace l8 := hide l8
  replace l9 := hide l9
  replace l10 := hide l10
  replace l13 := hide l13
  replace l14 := hide l14
  replace l15 := hide l15
  replace l16 := hide l16
  replace l17 := hide l17
  replace kF := hide kF
  refine ⟨?_, ?_, ?_, ?_, ?_, ?_, ?_, ?_, ?_, ?_, ?_, ?_, ?_, ?_, ?_, ?_, ?_, ?_, ?_, trivial⟩
  ·intro h0 hd K hK
   have z : u0 = false := h0
   have z18_ : u18 = false := znb fun hu => z.symm.trans ((zu kF hu).1)
   subst z18_
   subst z
   clear h0 hd
   rw [if_pos (by rfl)]
   go_simp
   exact zu hK _ _ ⟨true, u1, u2, u3, u4, u5, u6, u7, u8, u9, u10, u11, u12, u13, u14, u15, u16, u17, false, n16, rfl, rfl, zu kB, zu k16, (fun h => ⟨rfl, (zu l2 h).2⟩), zu l3, zu l7, zu l8, zu l9, zu l10, zu l13, zu l14, zu l15, zu l16, zu l17, zf⟩
  ·intro h0 hd K hK
   have z : u1 = false := h0
   have z18_ : u18 = false := znb fun hu => z.symm.trans ((zu kF hu).2.1)
   subst z18_
   subst z
   clear h0 hd
   rw [if_pos (by rfl)]
   go_simp
   exact zu hK _ _ ⟨u0, true, u2, u3, u4, u5, u6, u7, u8, u9, u10, u11, u12, u13, u14, u15, u16, u17, false, n16, rfl, rfl, zu kB, zu k16, (fun h => ⟨(zu l2 h).1, rfl⟩), zu l3, zu l7, zu l8, zu l9, zu l10, zu l13, zu l14, zu l15, zu l16, zu l17, zf⟩
  ·intro h0 hd K hK
   have z : u2 = false := h0
   have z18_ : u18 = false := znb fun hu => z.symm.trans ((zu kF hu).2.2.1)
   have zd : u0 = true ∧ u1 = true := by
    simp [Region.binds] at hd
    simp [hd]
   obtain ⟨rfl, rfl⟩ := zd
   subst z18_
   subst z
   clear h0 hd
   rw [if_pos (by rfl)]
   have q1 : a < n := zu HX2
   have q2 : (a : Int) < (n : Int) := by omega
   go_simp
   exact zu hK _ _ ⟨true, true, true, u3, u4, u5, u6, u7, u8, u9, u10, u11, u12, u13, u14, u15, u16, u17, false, n16, rfl, rfl, zu kB, zu k16, (fun _ => ⟨rfl, rfl⟩), (fun h => rfl), zu l7, zu l8, zu l9, zu l10, zu l13, zu l14, zu l15, zu l16, zu l17, zf⟩
  ·intro h0 hd K hK
   have z : u3 = false := h0
   have z18_ : u18 = false := znb fun hu => z.symm.trans ((zu kF hu).2.2.2.1)
   have zd : u2 = true := by
    simp [Region.binds] at hd
    simp [hd]
   obtain ⟨rfl⟩ := zd
   subst z18_
   subst z
   clear h0 hd
   rw [if_pos (by rfl)]
   have c0 := keep1 (zu kB) (zu HA0)
   have c1 := keep1 (zu kB) (zu HA1)
   go_simp
   exact zu hK _ _ ⟨u0, u1, true, true, u4, u5, u6, u7, u8, u9, u10, u11, u12, u13, u14, u15, u16, u17, false, n16, rfl, rfl, zu kB, zu k16, zu l2, (fun _ => rfl), zu l7, zu l8, zu l9, zu l10, zu l13, zu l14, (fun h => ⟨rfl, (zu l15 h).2.1, (zu l15 h).2.2⟩), zu l16, zu l17, zf⟩
  ·intro h0 hd K hK
   have z : u4 = false := h0
   have z18_ : u18 = false := znb fun hu => z.symm.trans ((zu kF hu).2.2.2.2.1)
   subst z18_
   subst z
   clear h0 hd
   rw [if_pos (by rfl)]
   go_simp
   exact zu hK _ _ ⟨u0, u1, u2, u3, true, u5, u6, u7, u8, u9, u10, u11, u12, u13, u14, u15, u16, u17, false, n16, rfl, rfl, zu kB, zu k16, zu l2, zu l3, zu l7, zu l8, (fun h => ⟨rfl, (zu l9 h).2⟩), zu l10, zu l13, zu l14, zu l15, zu l16, zu l17, zf⟩
  ·intro h0 hd K hK
   have z : u5 = false := h0
   have z18_ : u18 = false := znb fun hu => z.symm.trans ((zu kF hu).2.2.2.2.2.1)
   subst z18_
   subst z
   clear h0 hd
   rw [if_pos (by rfl)]
   go_simp
   exact zu hK _ _ ⟨u0, u1, u2, u3, u4, true, u6, u7, u8, u9, u10, u11, u12, u13, u14, u15, u16, u17, false, n16, rfl, rfl, zu kB, zu k16, zu l2, zu l3, (fun h => ⟨rfl, (zu l7 h).2⟩), zu l8, zu l9, zu l10, zu l13, zu l14, zu l15, zu l16, zu l17, zf⟩
  ·intro h0 hd K hK
   have z : u6 = false := h0
   have z18_ : u18 = false := znb fun hu => z.symm.trans ((zu kF hu).2.2.2.2.2.2.1)
   subst z18_
   subst z
   clear h0 hd
   rw [if_pos (by rfl)]
   go_simp
   exact zu hK _ _ ⟨u0, u1, u2, u3, u4, u5, true, u7, u8, u9, u10, u11, u12, u13, u14, u15, u16, u17, false, n16, rfl, rfl, zu kB, zu k16, zu l2, zu l3, (fun h => ⟨(zu l7 h).1, rfl⟩), zu l8, zu l9, zu l10, zu l13, zu l14, zu l15, zu l16, zu l17, zf⟩
  ·intro h0 hd K hK
   have z : u7 = false := h0
   have z18_ : u18 = false := znb fun hu => z.symm.trans ((zu kF hu).2.2.2.2.2.2.2.1)
   have zd : u5 = true ∧ u6 = true := by
    simp [Region.binds] at hd
    simp [hd]
   obtain ⟨rfl, rfl⟩ := zd
   subst z18_
   subst z
   clear h0 hd
   rw [if_pos (by rfl)]
   have q1 : j < m := zu HX7
   have q2 : (j : Int) < (m : Int) := by omega
   go_simp
   exact zu hK _ _ ⟨u0, u1, u2, u3, u4, true, true, true, u8, u9, u10, u11, u12, u13, u14, u15, u16, u17, false, n16, rfl, rfl, zu kB, zu k16, zu l2, zu l3, (fun _ => ⟨rfl, rfl⟩), (fun h => rfl), zu l9, zu l10, zu l13, zu l14, zu l15, zu l16, zu l17, zf⟩
  ·intro h0 hd K hK
   have z : u8 = false := h0
   have z18_ : u18 = false := znb fun hu => z.symm.trans ((zu kF hu).2.2.2.2.2.2.2.2.1)
   have zd : u7 = true := by
    simp [Region.binds] at hd
    simp [hd]
   obtain ⟨rfl⟩ := zd
   subst z18_
   subst z
   clear h0 hd
   rw [if_pos (by rfl)]
   have c0 := keep1 (zu kB) (zu HR)
   go_simp
   exact zu hK _ _ ⟨u0, u1, u2, u3, u4, u5, u6, true, true, u9, u10, u11, u12, u13, u14, u15, u16, u17, false, n16, rfl, rfl, zu kB, zu k16, zu l2, zu l3, zu l7, (fun _ => rfl), (fun h => ⟨(zu l9 h).1, rfl⟩), zu l10, zu l13, zu l14, zu l15, zu l16, zu l17, zf⟩
  ·intro h0 hd K hK
   have z : u9 = false := h0
   have z18_ : u18 = false := znb fun hu => z.symm.trans ((zu kF hu).2.2.2.2.2.2.2.2.2.1)
   have zd : u4 = true ∧ u8 = true := by
    simp [Region.binds] at hd
    simp [hd]
   obtain ⟨rfl, rfl⟩ := zd
   subst z18_
   subst z
   clear h0 hd
   rw [if_pos (by rfl)]
   have q1 : k < n := zu HX9
   have q2 : (k : Int) < (n : Int) := by omega
   go_simp
   exact zu hK _ _ ⟨u0, u1, u2, u3, true, u5, u6, u7, true, true, u10, u11, u12, u13, u14, u15, u16, u17, false, n16, rfl, rfl, zu kB, zu k16, zu l2, zu l3, zu l7, zu l8, (fun _ => ⟨rfl, rfl⟩), (fun h => rfl), zu l13, zu l14, zu l15, zu l16, zu l17, zf⟩
  ·intro h0 hd K hK
   have z : u10 = false := h0
   have z18_ : u18 = false := znb fun hu => z.symm.trans ((zu kF hu).2.2.2.2.2.2.2.2.2.2.1)
   have zd : u9 = true := by
    simp [Region.binds] at hd
    simp [hd]
   obtain ⟨rfl⟩ := zd
   subst z18_
   subst z
   clear h0 hd
   rw [if_pos (by rfl)]
   have c0 := keep1 (zu kB) (zu HK0)
   have c1 := keep1 (zu kB) (zu HK1)
   go_simp
   exact zu hK _ _ ⟨u0, u1, u2, u3, u4, u5, u6, u7, u8, true, true, u11, u12, u13, u14, u15, u16, u17, false, n16, rfl, rfl, zu kB, zu k16, zu l2, zu l3, zu l7, zu l8, zu l9, (fun _ => rfl), zu l13, zu l14, (fun h => ⟨(zu l15 h).1, rfl, (zu l15 h).2.2⟩), zu l16, zu l17, zf⟩
  ·intro h0 hd K hK
   have z : u11 = false := h0
   have z18_ : u18 = false := znb fun hu => z.symm.trans ((zu kF hu).2.2.2.2.2.2.2.2.2.2.2.1)
   subst z18_
   subst z
   clear h0 hd
   rw [if_pos (by rfl)]
   go_simp
   exact zu hK _ _ ⟨u0, u1, u2, u3, u4, u5, u6, u7, u8, u9, u10, true, u12, u13, u14, u15, u16, u17, false, n16, rfl, rfl, zu kB, zu k16, zu l2, zu l3, zu l7, zu l8, zu l9, zu l10, (fun h => ⟨rfl, (zu l13 h).2⟩), zu l14, zu l15, zu l16, zu l17, zf⟩
  ·intro h0 hd K hK
   have z : u12 = false := h0
   have z18_ : u18 = false := znb fun hu => z.symm.trans ((zu kF hu).2.2.2.2.2.2.2.2.2.2.2.2.1)
   subst z18_
   subst z
   clear h0 hd
   rw [if_pos (by rfl)]
   go_simp
   exact zu hK _ _ ⟨u0, u1, u2, u3, u4, u5, u6, u7, u8, u9, u10, u11, true, u13, u14, u15, u16, u17, false, n16, rfl, rfl, zu kB, zu k16, zu l2, zu l3, zu l7, zu l8, zu l9, zu l10, (fun h => ⟨(zu l13 h).1, rfl⟩), zu l14, zu l15, zu l16, zu l17, zf⟩
  ·intro h0 hd K hK
   have z : u13 = false := h0
   have z18_ : u18 = false := znb fun hu => z.symm.trans ((zu kF hu).2.2.2.2.2.2.2.2.2.2.2.2.2.1)
   have zd : u11 = true ∧ u12 = true := by
    simp [Region.binds] at hd
    simp [hd]
   obtain ⟨rfl, rfl⟩ := zd
   subst z18_
   subst z
   clear h0 hd
   rw [if_pos (by rfl)]
   have q1 : c < n := zu HX13
   have q2 : (c : Int) < (n : Int) := by omega
   go_simp
   exact zu hK _ _ ⟨u0, u1, u2, u3, u4, u5, u6, u7, u8, u9, u10, true, true, true, u14, u15, u16, u17, false, n16, rfl, rfl, zu kB, zu k16, zu l2, zu l3, zu l7, zu l8, zu l9, zu l10, (fun _ => ⟨rfl, rfl⟩), (fun h => rfl), zu l15, zu l16, zu l17, zf⟩
  ·intro h0 hd K hK
   have z : u14 = false := h0
   have z18_ : u18 = false := znb fun hu => z.symm.trans ((zu kF hu).2.2.2.2.2.2.2.2.2.2.2.2.2.2.1)
   have zd : u13 = true := by
    simp [Region.binds] at hd
    simp [hd]
   obtain ⟨rfl⟩ := zd
   subst z18_
   subst z
   clear h0 hd
   rw [if_pos (by rfl)]
   have c0 := keep1 (zu kB) (zu HC0)
   have c1 := keep1 (zu kB) (zu HC1)
   go_simp
   exact zu hK _ _ ⟨u0, u1, u2, u3, u4, u5, u6, u7, u8, u9, u10, u11, u12, true, true, u15, u16, u17, false, n16, rfl, rfl, zu kB, zu k16, zu l2, zu l3, zu l7, zu l8, zu l9, zu l10, zu l13, (fun _ => rfl), (fun h => ⟨(zu l15 h).1, (zu l15 h).2.1, rfl⟩), zu l16, zu l17, zf⟩
  ·intro h0 hd K hK
   have z : u15 = false := h0
   have z18_ : u18 = false := znb fun hu => z.symm.trans ((zu kF hu).2.2.2.2.2.2.2.2.2.2.2.2.2.2.2.1)
   have zd : u3 = true ∧ u10 = true ∧ u14 = true := by
    simp [Region.binds] at hd
    simp [hd]
   obtain ⟨rfl, rfl, rfl⟩ := zd
   subst z18_
   subst z
   clear h0 hd
   rw [if_pos (by rfl)]
   go_simp
   exact zu hK _ _ ⟨u0, u1, u2, true, u4, u5, u6, u7, u8, u9, true, u11, u12, u13, true, true, u16, u17, false, n16, rfl, rfl, zu kB, zu k16, zu l2, zu l3, zu l7, zu l8, zu l9, zu l10, zu l13, zu l14, (fun _ => ⟨rfl, rfl, rfl⟩), (fun h => rfl), zu l17, zf⟩
  ·intro h0 hd K hK
   have z : u16 = false := h0
   have z18_ : u18 = false := znb fun hu => z.symm.trans ((zu kF hu).2.2.2.2.2.2.2.2.2.2.2.2.2.2.2.2.1)
   have zd : u15 = true := by
    simp [Region.binds] at hd
    simp [hd]
   obtain ⟨rfl⟩ := zd
   subst z18_
   subst z
   clear h0 hd
   rw [if_pos (by rfl)]
   go_simp
   exact zu hK _ _ ⟨u0, u1, u2, u3, u4, u5, u6, u7, u8, u9, u10, u11, u12, u13, u14, true, true, u17, false, W.heap.size, rfl, rfl, ba (zu kB) _, (fun _ => ⟨cb_new W 97 _ _ rfl, (zu kB).size⟩), zu l2, zu l3, zu l7, zu l8, zu l9, zu l10, zu l13, zu l14, zu l15, (fun _ => rfl), (fun h => rfl), zf⟩
  ·intro h0 hd K hK
   have z : u17 = false := h0
   have z18_ : u18 = false := znb fun hu => z.symm.trans ((zu kF hu).2.2.2.2.2.2.2.2.2.2.2.2.2.2.2.2.2)
   have zd : u16 = true := by
    simp [Region.binds] at hd
    simp [hd]
   obtain ⟨rfl⟩ := zd
   subst z18_
   subst z
   clear h0 hd
   rw [if_pos (by rfl)]
   go_simp
   refine (zu HF17 _ W (zu kB) (zu k16 rfl).1).mono ?_
   rintro e w8 ⟨rfl, hb8⟩
   exact zu hK _ _ ⟨u0, u1, u2, u3, u4, u5, u6, u7, u8, u9, u10, u11, u12, u13, u14, u15, true, true, false, n16, rfl, rfl, bc (zu kB) hb8, (fun h => ⟨(zu k16 h).1.bel hb8, (zu k16 h).2⟩), zu l2, zu l3, zu l7, zu l8, zu l9, zu l10, zu l13, zu l14, zu l15, zu l16, (fun _ => rfl), zf⟩
  ·intro h0 hd K hK
   have z : u18 = false := h0
   have zd0 : u17 = true := by
    simp [Region.binds] at hd
    simp [hd]
   have zd : u17 = true ∧ u0 = true ∧ u1 = true ∧ u2 = true ∧ u3 = true ∧ u4 = true ∧ u5 = true ∧ u6 = true ∧ u7 = true ∧ u8 = true ∧ u9 = true ∧ u10 = true ∧ u11 = true ∧ u12 = true ∧ u13 = true ∧ u14 = true ∧ u15 = true ∧ u16 = true := ⟨zd0, (zu l2 (zu l3 (zu l15 (zu l16 (zu l17 zd0))).1)).1, (zu l2 (zu l3 (zu l15 (zu l16 (zu l17 zd0))).1)).2, (zu l3 (zu l15 (zu l16 (zu l17 zd0))).1), (zu l15 (zu l16 (zu l17 zd0))).1, (zu l9 (zu l10 (zu l15 (zu l16 (zu l17 zd0))).2.1)).1, (zu l7 (zu l8 (zu l9 (zu l10 (zu l15 (zu l16 (zu l17 zd0))).2.1)).2)).1, (zu l7 (zu l8 (zu l9 (zu l10 (zu l15 (zu l16 (zu l17 zd0))).2.1)).2)).2, (zu l8 (zu l9 (zu l10 (zu l15 (zu l16 (zu l17 zd0))).2.1)).2), (zu l9 (zu l10 (zu l15 (zu l16 (zu l17 zd0))).2.1)).2, (zu l10 (zu l15 (zu l16 (zu l17 zd0))).2.1), (zu l15 (zu l16 (zu l17 zd0))).2.1, (zu l13 (zu l14 (zu l15 (zu l16 (zu l17 zd0))).2.2)).1, (zu l13 (zu l14 (zu l15 (zu l16 (zu l17 zd0))).2.2)).2, (zu l14 (zu l15 (zu l16 (zu l17 zd0))).2.2), (zu l15 (zu l16 (zu l17 zd0))).2.2, (zu l16 (zu l17 zd0)), (zu l17 zd0)⟩
   obtain ⟨rfl, rfl, rfl, rfl, rfl, rfl, rfl, rfl, rfl, rfl, rfl, rfl, rfl, rfl, rfl, rfl, rfl, rfl⟩ := zd
   subst z
   clear h0 hd
   rw [if_pos (by rfl)]
   go_simp
   exact zu hK _ _ ⟨true, true, true, true, true, true, true, true, true, true, true, true, true, true, true, true, true, true, true, n16, rfl, rfl, zu kB, zu k16, (fun _ => ⟨rfl, rfl⟩), (fun _ => rfl), (fun _ => ⟨rfl, rfl⟩), (fun _ => rfl), (fun _ => ⟨rfl, rfl⟩), (fun _ => rfl), (fun _ => ⟨rfl, rfl⟩), (fun _ => rfl), (fun _ => ⟨rfl, rfl, rfl⟩), (fun _ => rfl), (fun _ => rfl), (fun _ => ⟨rfl, rfl, rfl, rfl, rfl, rfl, rfl, rfl, rfl, rfl, rfl, rfl, rfl, rfl, rfl, rfl, rfl, rfl⟩)⟩
 case hend =>
  intro Lb A W hI
  obtain ⟨u0, u1, u2, u3, u4, hI⟩ := hI
  obtain ⟨u5, u6, u7, u8, u9, hI⟩ := hI
  obtain ⟨u10, u11, u12, u13, u14, hI⟩ := hI
  obtain ⟨u15, u16, u17, u18, n16, hI⟩ := hI
  obtain ⟨hLb, hI⟩ := hI
  obtain ⟨hA, hI⟩ := hI
  obtain ⟨kB, hI⟩ := hI
  obtain ⟨k16, hI⟩ := hI
  obtain ⟨l2, hI⟩ := hI
  obtain ⟨l3, hI⟩ := hI
  obtain ⟨l7, hI⟩ := hI
  obtain ⟨l8, hI⟩ := hI
  obtain ⟨l9, hI⟩ := hI
  obtain ⟨l10, hI⟩ := hI
  obtain ⟨l13, hI⟩ := hI
  obtain ⟨l14, hI⟩ := hI
  obtain ⟨l15, hI⟩ := hI
  obtain ⟨l16, hI⟩ := hI
  obtain ⟨l17, hI⟩ := hI
  have kF := hI
  clear hI
  subst hLb
  subst hA
  intro hL
  have hl : u0 = true ∧ u1 = true ∧ u2 = true ∧ u3 = true ∧ u4 = true ∧ u5 = true ∧ u6 = true ∧ u7 = true ∧ u8 = true ∧ u9 = true ∧ u10 = true ∧ u11 = true ∧ u12 = true ∧ u13 = true ∧ u14 = true ∧ u15 = true ∧ u16 = true ∧ u17 = true ∧ u18 = true := by
   have h2 := congrArg Array.toList hL
   simpa [List.replicate] using h2
  obtain ⟨rfl, rfl, rfl, rfl, rfl, rfl, rfl, rfl, rfl, rfl, rfl, rfl, rfl, rfl, rfl, rfl, rfl, rfl, rfl⟩ := hl
  exact zu HQ n16 W kB (k16 rfl).1 (k16 rfl).2
end Go.Proofs.Ytdcecfgmfmpeeaa
