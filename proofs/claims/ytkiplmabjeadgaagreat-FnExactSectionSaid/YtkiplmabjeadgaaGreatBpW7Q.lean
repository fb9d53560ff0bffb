/- The program's work of a feature. -/
import Derived.Test.YtkiplmabjeadgaaGreatInv3Q
import Derived.Test.YtkiplmabjeadgaaGreatBpU6Q
namespace Go.Proofs.YtkiplmabjeadgaaGreat
set_option maxRecDepth 100000
set_option maxHeartbeats 16000000
open Go.ChangeShapes Go.WideShapes Go.ChangeAt Go.RowKit
set_option linter.unusedVariables false
set_option linter.unusedSimpArgs false
noncomputable def rg117 (id : Nat) : Go.Code := match Tryz.f117.body with | some c => (regOfZ id c).getD .skip | none => .skip
theorem wo5 {s0 s1 s2 s4 s5 s6 s7 s8 s9 s10 s11 s12 s13 s14 s15 s16 s17 s18 s19 s20 s21 s22 s23 s24 s25 s26 s27 s28 s29 s30 s31 s32 s33 s34 s35 s36 s37 s38 s39 s40 s41 s42 s43 s44 s45 s46 s47 s48 : Value} {gF : Nat} {nm on : ByteArray} {V : World} {K_ : Act → World → Prop}
  (HF0 : Hid (V.cell? ⟨gF, 0, none⟩ = some (.string nm))) (HF1 : Hid (V.cell? ⟨gF, 1, none⟩ = some (.string on)))
  (hQ : ∀ (n4 : Nat)  (W1 : World), Below V.heap.size V W1 → vb W1 n4 9 [.string nm, .string on] → V.heap.size ≤ n4 → K_ { tmps := #[s0, s1, s2, .pointer (some ⟨gF, 0, none⟩), .nilIface, .int .i64 (8), .slice (some ⟨n4, 0, none⟩) 2 2, s7, s8, s9, s10, s11, s12, s13, s14, s15, s16, s17, s18, s19, s20, s21, s22, s23, .pointer (some ⟨gF, 0, none⟩), .string nm, .pointer (some ⟨gF, 1, none⟩), .string on, .slice (some ⟨n4, 0, none⟩) 2 2, s29, s30, s31, s32, s33, s34, s35, s36, s37, s38, s39, s40, s41, s42, s43, s44, s45, s46, s47, s48], defers := [] } W1) :
  Go.Code.wp Tryz.prog (rg117 5) (Only K_) { tmps := #[s0, s1, s2, .pointer (some ⟨gF, 0, none⟩), s4, s5, s6, s7, s8, s9, s10, s11, s12, s13, s14, s15, s16, s17, s18, s19, s20, s21, s22, s23, s24, s25, s26, s27, s28, s29, s30, s31, s32, s33, s34, s35, s36, s37, s38, s39, s40, s41, s42, s43, s44, s45, s46, s47, s48], defers := [] } V := by
 have HQ := hide hQ;clear hQ
 conv => arg 2; whnf
 refine wp_region_inv2 (fun Lb A W => ∃ (u0 u1 u2 u3 u4 u5 u6 u7 : Bool) (n4 : Nat), Lb = #[u0, u1, u2, u3, u4, u5, u6, u7] ∧ A = ({ tmps := #[s0, s1, s2, .pointer (some ⟨gF, 0, none⟩), (bif u5 then .nilIface else s4), (bif u6 then .int .i64 (8) else s5), (bif u7 then .slice (some ⟨n4, 0, none⟩) 2 2 else s6), s7, s8, s9, s10, s11, s12, s13, s14, s15, s16, s17, s18, s19, s20, s21, s22, s23, (bif u0 then .pointer (some ⟨gF, 0, none⟩) else s24), (bif u1 then .string nm else s25), (bif u2 then .pointer (some ⟨gF, 1, none⟩) else s26), (bif u3 then .string on else s27), (bif u4 then .slice (some ⟨n4, 0, none⟩) 2 2 else s28), s29, s30, s31, s32, s33, s34, s35, s36, s37, s38, s39, s40, s41, s42, s43, s44, s45, s46, s47, s48], defers := [] } : Act) ∧ Below V.heap.size V W ∧ (u4 = true → vb W n4 9 [.string nm, .string on] ∧ V.heap.size ≤ n4) ∧ (u7 = true → u0 = true ∧ u1 = true ∧ u2 = true ∧ u3 = true ∧ u4 = true ∧ u5 = true ∧ u6 = true)) (by kernel_rfl) (by kernel_rfl) ?h0 ?hstep ?hend
 case h0 =>
  exact ⟨false, false, false, false, false, false, false, false, 0, rfl, rfl, Below.drew (bfl _ _), zf, zf⟩
 case hstep =>
  intro Lb A W hI;obtain ⟨u0, u1, u2, u3, u4, hI⟩ := hI;obtain ⟨u5, u6, u7, n4, hI⟩ := hI;obtain ⟨hLb, hI⟩ := hI;obtain ⟨hA, hI⟩ := hI;obtain ⟨kB, hI⟩ := hI;obtain ⟨k4, hI⟩ := hI;have kF := hI;clear hI;subst hLb;subst hA;replace kB := hide kB;replace k4 := hide k4;replace kF := hide kF;refine ⟨?_, ?_, ?_, ?_, ?_, ?_, ?_, ?_, trivial⟩
  ·intro h0 hd K hK
   have z : u0 = false := h0;have z7_ : u7 = false := znb fun hu => z.symm.trans ((zu kF hu).1)
   subst z7_;subst z;clear h0 hd;rw [if_pos (by rfl)];go_simp;exact zu hK _ _ ⟨true, u1, u2, u3, u4, u5, u6, false, n4, rfl, rfl, zu kB, zu k4, zf⟩
  ·intro h0 hd K hK
   have z : u1 = false := h0;have z7_ : u7 = false := znb fun hu => z.symm.trans ((zu kF hu).2.1)
   obtain ⟨rfl⟩ : u0 = true := by simp [Region.binds] at hd; simp [hd]
   subst z7_;subst z;clear h0 hd;rw [if_pos (by rfl)];have c0 := keep1 (zu kB) (zu HF0);go_simp;exact zu hK _ _ ⟨true, true, u2, u3, u4, u5, u6, false, n4, rfl, rfl, zu kB, zu k4, zf⟩
  ·intro h0 hd K hK
   have z : u2 = false := h0;have z7_ : u7 = false := znb fun hu => z.symm.trans ((zu kF hu).2.2.1)
   subst z7_;subst z;clear h0 hd;rw [if_pos (by rfl)];go_simp;exact zu hK _ _ ⟨u0, u1, true, u3, u4, u5, u6, false, n4, rfl, rfl, zu kB, zu k4, zf⟩
  ·intro h0 hd K hK
   have z : u3 = false := h0;have z7_ : u7 = false := znb fun hu => z.symm.trans ((zu kF hu).2.2.2.1)
   obtain ⟨rfl⟩ : u2 = true := by simp [Region.binds] at hd; simp [hd]
   subst z7_;subst z;clear h0 hd;rw [if_pos (by rfl)];have c0 := keep1 (zu kB) (zu HF1);go_simp;exact zu hK _ _ ⟨u0, u1, true, true, u4, u5, u6, false, n4, rfl, rfl, zu kB, zu k4, zf⟩
  ·intro h0 hd K hK
   have z : u4 = false := h0;have z7_ : u7 = false := znb fun hu => z.symm.trans ((zu kF hu).2.2.2.2.1)
   obtain ⟨rfl, rfl⟩ : u1 = true ∧ u3 = true := by simp [Region.binds] at hd; simp [hd]
   subst z7_;subst z;clear h0 hd;rw [if_pos (by rfl)];go_simp;exact zu hK _ _ ⟨u0, true, u2, true, true, u5, u6, false, W.heap.size, rfl, rfl, ba (zu kB) _, (fun _ => ⟨vb_new W 9 _ _ rfl, (zu kB).size⟩), zf⟩
  ·intro h0 hd K hK
   have z : u5 = false := h0;have z7_ : u7 = false := znb fun hu => z.symm.trans ((zu kF hu).2.2.2.2.2.1)
   subst z7_;subst z;clear h0 hd;rw [if_pos (by rfl)];go_simp;exact zu hK _ _ ⟨u0, u1, u2, u3, u4, true, u6, false, n4, rfl, rfl, zu kB, zu k4, zf⟩
  ·intro h0 hd K hK
   have z : u6 = false := h0;have z7_ : u7 = false := znb fun hu => z.symm.trans ((zu kF hu).2.2.2.2.2.2)
   obtain ⟨rfl⟩ : u5 = true := by simp [Region.binds] at hd; simp [hd]
   subst z7_;subst z;clear h0 hd;rw [if_pos (by rfl)];go_simp;exact zu hK _ _ ⟨u0, u1, u2, u3, u4, true, true, false, n4, rfl, rfl, zu kB, zu k4, zf⟩
  ·intro h0 hd K hK
   have z : u7 = false := h0
   have zd0 : u0 = true ∧ u1 = true ∧ u2 = true ∧ u3 = true ∧ u4 = true ∧ u5 = true ∧ u6 = true := by
    simp [Region.binds] at hd;simp [hd]
   have zd : u0 = true ∧ u1 = true ∧ u2 = true ∧ u3 = true ∧ u4 = true ∧ u5 = true ∧ u6 = true := ⟨zd0.1, zd0.2.1, zd0.2.2.1, zd0.2.2.2.1, zd0.2.2.2.2.1, zd0.2.2.2.2.2.1, zd0.2.2.2.2.2.2⟩
   obtain ⟨rfl, rfl, rfl, rfl, rfl, rfl, rfl⟩ := zd;subst z;clear h0 hd;rw [if_pos (by rfl)];go_simp;exact zu hK _ _ ⟨true, true, true, true, true, true, true, true, n4, rfl, rfl, zu kB, zu k4, (fun _ => ⟨rfl, rfl, rfl, rfl, rfl, rfl, rfl⟩)⟩
 case hend =>
  intro Lb A W hI;obtain ⟨u0, u1, u2, u3, u4, hI⟩ := hI;obtain ⟨u5, u6, u7, n4, hI⟩ := hI;obtain ⟨hLb, hI⟩ := hI;obtain ⟨hA, hI⟩ := hI;obtain ⟨kB, hI⟩ := hI;obtain ⟨k4, hI⟩ := hI;have kF := hI;clear hI;subst hLb;subst hA;intro hL
  have hl : u0 = true ∧ u1 = true ∧ u2 = true ∧ u3 = true ∧ u4 = true ∧ u5 = true ∧ u6 = true ∧ u7 = true := by
   have h2 := congrArg Array.toList hL
   simpa [List.replicate] using h2
  obtain ⟨rfl, rfl, rfl, rfl, rfl, rfl, rfl, rfl⟩ := hl;exact zu HQ n4  W kB (k4 rfl).1 (k4 rfl).2
theorem wo7 {s0 s1 s2 s4 s5 s6 s7 s8 s9 s10 s11 s12 s13 s14 s15 s16 s17 s18 s19 s20 s21 s22 s23 s24 s25 s26 s27 s28 s29 s30 s31 s32 s33 s34 s35 s36 s37 s38 s39 s40 s41 s42 s43 s44 s45 s46 s47 s48 : Value} {gF : Nat} {nm on : ByteArray} {V : World} {K_ : Act → World → Prop}
  (HF0 : Hid (V.cell? ⟨gF, 0, none⟩ = some (.string nm))) (HF1 : Hid (V.cell? ⟨gF, 1, none⟩ = some (.string on)))
  (hQ : ∀ (n4 : Nat)  (W1 : World), Below V.heap.size V W1 → vb W1 n4 9 [.string nm, .string on] → V.heap.size ≤ n4 → K_ { tmps := #[s0, s1, s2, .pointer (some ⟨gF, 0, none⟩), .nilIface, .int .i64 (13), .slice (some ⟨n4, 0, none⟩) 2 2, s7, s8, s9, s10, s11, s12, s13, s14, s15, s16, s17, s18, s19, s20, s21, s22, s23, s24, s25, s26, s27, s28, s29, s30, s31, .pointer (some ⟨gF, 0, none⟩), .string nm, .pointer (some ⟨gF, 1, none⟩), .string on, .slice (some ⟨n4, 0, none⟩) 2 2, s37, s38, s39, s40, s41, s42, s43, s44, s45, s46, s47, s48], defers := [] } W1) :
  Go.Code.wp Tryz.prog (rg117 7) (Only K_) { tmps := #[s0, s1, s2, .pointer (some ⟨gF, 0, none⟩), s4, s5, s6, s7, s8, s9, s10, s11, s12, s13, s14, s15, s16, s17, s18, s19, s20, s21, s22, s23, s24, s25, s26, s27, s28, s29, s30, s31, s32, s33, s34, s35, s36, s37, s38, s39, s40, s41, s42, s43, s44, s45, s46, s47, s48], defers := [] } V := by
 have HQ := hide hQ;clear hQ
 conv => arg 2; whnf
 refine wp_region_inv2 (fun Lb A W => ∃ (u0 u1 u2 u3 u4 u5 u6 u7 : Bool) (n4 : Nat), Lb = #[u0, u1, u2, u3, u4, u5, u6, u7] ∧ A = ({ tmps := #[s0, s1, s2, .pointer (some ⟨gF, 0, none⟩), (bif u5 then .nilIface else s4), (bif u6 then .int .i64 (13) else s5), (bif u7 then .slice (some ⟨n4, 0, none⟩) 2 2 else s6), s7, s8, s9, s10, s11, s12, s13, s14, s15, s16, s17, s18, s19, s20, s21, s22, s23, s24, s25, s26, s27, s28, s29, s30, s31, (bif u0 then .pointer (some ⟨gF, 0, none⟩) else s32), (bif u1 then .string nm else s33), (bif u2 then .pointer (some ⟨gF, 1, none⟩) else s34), (bif u3 then .string on else s35), (bif u4 then .slice (some ⟨n4, 0, none⟩) 2 2 else s36), s37, s38, s39, s40, s41, s42, s43, s44, s45, s46, s47, s48], defers := [] } : Act) ∧ Below V.heap.size V W ∧ (u4 = true → vb W n4 9 [.string nm, .string on] ∧ V.heap.size ≤ n4) ∧ (u7 = true → u0 = true ∧ u1 = true ∧ u2 = true ∧ u3 = true ∧ u4 = true ∧ u5 = true ∧ u6 = true)) (by kernel_rfl) (by kernel_rfl) ?h0 ?hstep ?hend
 case h0 =>
  exact ⟨false, false, false, false, false, false, false, false, 0, rfl, rfl, Below.drew (bfl _ _), zf, zf⟩
 case hstep =>
  intro Lb A W hI;obtain ⟨u0, u1, u2, u3, u4, hI⟩ := hI;obtain ⟨u5, u6, u7, n4, hI⟩ := hI;obtain ⟨hLb, hI⟩ := hI;obtain ⟨hA, hI⟩ := hI;obtain ⟨kB, hI⟩ := hI;obtain ⟨k4, hI⟩ := hI;have kF := hI;clear hI;subst hLb;subst hA;replace kB := hide kB;replace k4 := hide k4;replace kF := hide kF;refine ⟨?_, ?_, ?_, ?_, ?_, ?_, ?_, ?_, trivial⟩
  ·intro h0 hd K hK
   have z : u0 = false := h0;have z7_ : u7 = false := znb fun hu => z.symm.trans ((zu kF hu).1)
   subst z7_;subst z;clear h0 hd;rw [if_pos (by rfl)];go_simp;exact zu hK _ _ ⟨true, u1, u2, u3, u4, u5, u6, false, n4, rfl, rfl, zu kB, zu k4, zf⟩
  ·intro h0 hd K hK
   have z : u1 = false := h0;have z7_ : u7 = false := znb fun hu => z.symm.trans ((zu kF hu).2.1)
   obtain ⟨rfl⟩ : u0 = true := by simp [Region.binds] at hd; simp [hd]
   subst z7_;subst z;clear h0 hd;rw [if_pos (by rfl)];have c0 := keep1 (zu kB) (zu HF0);go_simp;exact zu hK _ _ ⟨true, true, u2, u3, u4, u5, u6, false, n4, rfl, rfl, zu kB, zu k4, zf⟩
  ·intro h0 hd K hK
   have z : u2 = false := h0;have z7_ : u7 = false := znb fun hu => z.symm.trans ((zu kF hu).2.2.1)
   subst z7_;subst z;clear h0 hd;rw [if_pos (by rfl)];go_simp;exact zu hK _ _ ⟨u0, u1, true, u3, u4, u5, u6, false, n4, rfl, rfl, zu kB, zu k4, zf⟩
  ·intro h0 hd K hK
   have z : u3 = false := h0;have z7_ : u7 = false := znb fun hu => z.symm.trans ((zu kF hu).2.2.2.1)
   obtain ⟨rfl⟩ : u2 = true := by simp [Region.binds] at hd; simp [hd]
   subst z7_;subst z;clear h0 hd;rw [if_pos (by rfl)];have c0 := keep1 (zu kB) (zu HF1);go_simp;exact zu hK _ _ ⟨u0, u1, true, true, u4, u5, u6, false, n4, rfl, rfl, zu kB, zu k4, zf⟩
  ·intro h0 hd K hK
   have z : u4 = false := h0;have z7_ : u7 = false := znb fun hu => z.symm.trans ((zu kF hu).2.2.2.2.1)
   obtain ⟨rfl, rfl⟩ : u1 = true ∧ u3 = true := by simp [Region.binds] at hd; simp [hd]
   subst z7_;subst z;clear h0 hd;rw [if_pos (by rfl)];go_simp;exact zu hK _ _ ⟨u0, true, u2, true, true, u5, u6, false, W.heap.size, rfl, rfl, ba (zu kB) _, (fun _ => ⟨vb_new W 9 _ _ rfl, (zu kB).size⟩), zf⟩
  ·intro h0 hd K hK
   have z : u5 = false := h0;have z7_ : u7 = false := znb fun hu => z.symm.trans ((zu kF hu).2.2.2.2.2.1)
   subst z7_;subst z;clear h0 hd;rw [if_pos (by rfl)];go_simp;exact zu hK _ _ ⟨u0, u1, u2, u3, u4, true, u6, false, n4, rfl, rfl, zu kB, zu k4, zf⟩
  ·intro h0 hd K hK
   have z : u6 = false := h0;have z7_ : u7 = false := znb fun hu => z.symm.trans ((zu kF hu).2.2.2.2.2.2)
   obtain ⟨rfl⟩ : u5 = true := by simp [Region.binds] at hd; simp [hd]
   subst z7_;subst z;clear h0 hd;rw [if_pos (by rfl)];go_simp;exact zu hK _ _ ⟨u0, u1, u2, u3, u4, true, true, false, n4, rfl, rfl, zu kB, zu k4, zf⟩
  ·intro h0 hd K hK
   have z : u7 = false := h0
   have zd0 : u0 = true ∧ u1 = true ∧ u2 = true ∧ u3 = true ∧ u4 = true ∧ u5 = true ∧ u6 = true := by
    simp [Region.binds] at hd;simp [hd]
   have zd : u0 = true ∧ u1 = true ∧ u2 = true ∧ u3 = true ∧ u4 = true ∧ u5 = true ∧ u6 = true := ⟨zd0.1, zd0.2.1, zd0.2.2.1, zd0.2.2.2.1, zd0.2.2.2.2.1, zd0.2.2.2.2.2.1, zd0.2.2.2.2.2.2⟩
   obtain ⟨rfl, rfl, rfl, rfl, rfl, rfl, rfl⟩ := zd;subst z;clear h0 hd;rw [if_pos (by rfl)];go_simp;exact zu hK _ _ ⟨true, true, true, true, true, true, true, true, n4, rfl, rfl, zu kB, zu k4, (fun _ => ⟨rfl, rfl, rfl, rfl, rfl, rfl, rfl⟩)⟩
 case hend =>
  intro Lb A W hI;obtain ⟨u0, u1, u2, u3, u4, hI⟩ := hI;obtain ⟨u5, u6, u7, n4, hI⟩ := hI;obtain ⟨hLb, hI⟩ := hI;obtain ⟨hA, hI⟩ := hI;obtain ⟨kB, hI⟩ := hI;obtain ⟨k4, hI⟩ := hI;have kF := hI;clear hI;subst hLb;subst hA;intro hL
  have hl : u0 = true ∧ u1 = true ∧ u2 = true ∧ u3 = true ∧ u4 = true ∧ u5 = true ∧ u6 = true ∧ u7 = true := by
   have h2 := congrArg Array.toList hL
   simpa [List.replicate] using h2
  obtain ⟨rfl, rfl, rfl, rfl, rfl, rfl, rfl, rfl⟩ := hl;exact zu HQ n4  W kB (k4 rfl).1 (k4 rfl).2
theorem wo10 {s0 s1 s2 s4 s5 s6 s7 s8 s9 s10 s11 s12 s13 s14 s15 s16 s17 s18 s19 s20 s21 s22 s23 s24 s25 s26 s27 s28 s29 s30 s31 s32 s33 s34 s35 s36 s37 s38 s39 s40 s41 s42 s43 s44 s45 s46 s47 s48 : Value} {gF : Nat} {nm : ByteArray} {V : World} {K_ : Act → World → Prop}
  (HF0 : Hid (V.cell? ⟨gF, 0, none⟩ = some (.string nm)))
  (hQ : ∀ (n2 : Nat)  (W1 : World), Below V.heap.size V W1 → vb W1 n2 9 [.string nm] → V.heap.size ≤ n2 → K_ { tmps := #[s0, s1, s2, .pointer (some ⟨gF, 0, none⟩), .nilIface, .int .i64 (5), .slice (some ⟨n2, 0, none⟩) 1 1, s7, s8, s9, s10, s11, s12, s13, s14, s15, s16, s17, s18, s19, s20, s21, s22, s23, s24, s25, s26, s27, s28, s29, s30, s31, s32, s33, s34, s35, s36, s37, s38, s39, s40, s41, s42, s43, s44, .pointer (some ⟨gF, 0, none⟩), .string nm, .slice (some ⟨n2, 0, none⟩) 1 1, s48], defers := [] } W1) :
  Go.Code.wp Tryz.prog (rg117 10) (Only K_) { tmps := #[s0, s1, s2, .pointer (some ⟨gF, 0, none⟩), s4, s5, s6, s7, s8, s9, s10, s11, s12, s13, s14, s15, s16, s17, s18, s19, s20, s21, s22, s23, s24, s25, s26, s27, s28, s29, s30, s31, s32, s33, s34, s35, s36, s37, s38, s39, s40, s41, s42, s43, s44, s45, s46, s47, s48], defers := [] } V := by
 have HQ := hide hQ;clear hQ
 conv => arg 2; whnf
 refine wp_region_inv2 (fun Lb A W => ∃ (u0 u1 u2 u3 u4 u5 : Bool) (n2 : Nat), Lb = #[u0, u1, u2, u3, u4, u5] ∧ A = ({ tmps := #[s0, s1, s2, .pointer (some ⟨gF, 0, none⟩), (bif u3 then .nilIface else s4), (bif u4 then .int .i64 (5) else s5), (bif u5 then .slice (some ⟨n2, 0, none⟩) 1 1 else s6), s7, s8, s9, s10, s11, s12, s13, s14, s15, s16, s17, s18, s19, s20, s21, s22, s23, s24, s25, s26, s27, s28, s29, s30, s31, s32, s33, s34, s35, s36, s37, s38, s39, s40, s41, s42, s43, s44, (bif u0 then .pointer (some ⟨gF, 0, none⟩) else s45), (bif u1 then .string nm else s46), (bif u2 then .slice (some ⟨n2, 0, none⟩) 1 1 else s47), s48], defers := [] } : Act) ∧ Below V.heap.size V W ∧ (u2 = true → vb W n2 9 [.string nm] ∧ V.heap.size ≤ n2) ∧ (u5 = true → u0 = true ∧ u1 = true ∧ u2 = true ∧ u3 = true ∧ u4 = true)) (by kernel_rfl) (by kernel_rfl) ?h0 ?hstep ?hend
 case h0 =>
  exact ⟨false, false, false, false, false, false, 0, rfl, rfl, Below.drew (bfl _ _), zf, zf⟩
 case hstep =>
  intro Lb A W hI;obtain ⟨u0, u1, u2, u3, u4, hI⟩ := hI;obtain ⟨u5, n2, hI⟩ := hI;obtain ⟨hLb, hI⟩ := hI;obtain ⟨hA, hI⟩ := hI;obtain ⟨kB, hI⟩ := hI;obtain ⟨k2, hI⟩ := hI;have kF := hI;clear hI;subst hLb;subst hA;replace kB := hide kB;replace k2 := hide k2;replace kF := hide kF;refine ⟨?_, ?_, ?_, ?_, ?_, ?_, trivial⟩
  ·intro h0 hd K hK
   have z : u0 = false := h0;have z5_ : u5 = false := znb fun hu => z.symm.trans ((zu kF hu).1)
   subst z5_;subst z;clear h0 hd;rw [if_pos (by rfl)];go_simp;exact zu hK _ _ ⟨true, u1, u2, u3, u4, false, n2, rfl, rfl, zu kB, zu k2, zf⟩
  ·intro h0 hd K hK
   have z : u1 = false := h0;have z5_ : u5 = false := znb fun hu => z.symm.trans ((zu kF hu).2.1)
   obtain ⟨rfl⟩ : u0 = true := by simp [Region.binds] at hd; simp [hd]
   subst z5_;subst z;clear h0 hd;rw [if_pos (by rfl)];have c0 := keep1 (zu kB) (zu HF0);go_simp;exact zu hK _ _ ⟨true, true, u2, u3, u4, false, n2, rfl, rfl, zu kB, zu k2, zf⟩
  ·intro h0 hd K hK
   have z : u2 = false := h0;have z5_ : u5 = false := znb fun hu => z.symm.trans ((zu kF hu).2.2.1)
   obtain ⟨rfl⟩ : u1 = true := by simp [Region.binds] at hd; simp [hd]
   subst z5_;subst z;clear h0 hd;rw [if_pos (by rfl)];go_simp;exact zu hK _ _ ⟨u0, true, true, u3, u4, false, W.heap.size, rfl, rfl, ba (zu kB) _, (fun _ => ⟨vb_new W 9 _ _ rfl, (zu kB).size⟩), zf⟩
  ·intro h0 hd K hK
   have z : u3 = false := h0;have z5_ : u5 = false := znb fun hu => z.symm.trans ((zu kF hu).2.2.2.1)
   subst z5_;subst z;clear h0 hd;rw [if_pos (by rfl)];go_simp;exact zu hK _ _ ⟨u0, u1, u2, true, u4, false, n2, rfl, rfl, zu kB, zu k2, zf⟩
  ·intro h0 hd K hK
   have z : u4 = false := h0;have z5_ : u5 = false := znb fun hu => z.symm.trans ((zu kF hu).2.2.2.2)
   obtain ⟨rfl⟩ : u3 = true := by simp [Region.binds] at hd; simp [hd]
   subst z5_;subst z;clear h0 hd;rw [if_pos (by rfl)];go_simp;exact zu hK _ _ ⟨u0, u1, u2, true, true, false, n2, rfl, rfl, zu kB, zu k2, zf⟩
  ·intro h0 hd K hK
   have z : u5 = false := h0
   have zd0 : u0 = true ∧ u1 = true ∧ u2 = true ∧ u3 = true ∧ u4 = true := by
    simp [Region.binds] at hd;simp [hd]
   have zd : u0 = true ∧ u1 = true ∧ u2 = true ∧ u3 = true ∧ u4 = true := ⟨zd0.1, zd0.2.1, zd0.2.2.1, zd0.2.2.2.1, zd0.2.2.2.2⟩
   obtain ⟨rfl, rfl, rfl, rfl, rfl⟩ := zd;subst z;clear h0 hd;rw [if_pos (by rfl)];go_simp;exact zu hK _ _ ⟨true, true, true, true, true, true, n2, rfl, rfl, zu kB, zu k2, (fun _ => ⟨rfl, rfl, rfl, rfl, rfl⟩)⟩
 case hend =>
  intro Lb A W hI;obtain ⟨u0, u1, u2, u3, u4, hI⟩ := hI;obtain ⟨u5, n2, hI⟩ := hI;obtain ⟨hLb, hI⟩ := hI;obtain ⟨hA, hI⟩ := hI;obtain ⟨kB, hI⟩ := hI;obtain ⟨k2, hI⟩ := hI;have kF := hI;clear hI;subst hLb;subst hA;intro hL
  have hl : u0 = true ∧ u1 = true ∧ u2 = true ∧ u3 = true ∧ u4 = true ∧ u5 = true := by
   have h2 := congrArg Array.toList hL
   simpa [List.replicate] using h2
  obtain ⟨rfl, rfl, rfl, rfl, rfl, rfl⟩ := hl;exact zu HQ n2  W kB (k2 rfl).1 (k2 rfl).2
open Go.ChangeShapes Go.WideShapes Go.ChangeAt Go.RowKit Go.Maps Go.WideMaps
structure Pdm (w : World) (B : Nat) (fs : List Ft) (g gc bm cap : Nat) (vd vw : Value) (ws : List Wk) (D : Bd) : Prop where
 blk : vb w g 84 [.slice (some ⟨gc, 0, none⟩) 13824 13824, vd, vw, .map (some bm)]
 cel : vb w gc 141 (csl D.cs)
 dn : w.ownsRow B 9 1 vd D.done.length (strs (onm fs D.done))
 wk : w.ownsRow B 189 1 vw D.done.length (ws.map Wk.v)
 mp : MpN w bm cap fs D.done
 len : ws.length = D.done.length
theorem Pdm.bel {w w' : World} {B : Nat} {fs : List Ft} {g gc bm cap : Nat} {vd vw : Value} {ws : List Wk} {D : Bd} (h : Pdm w B fs g gc bm cap vd vw ws D) (hb : Below w.heap.size w w') : Pdm w' B fs g gc bm cap vd vw ws D :=
  ⟨h.blk.bel hb, h.cel.bel hb, own_bel h.dn hb, own_bel h.wk hb, h.mp.bel hb, h.len⟩
theorem ktN_or (k : Int) : ktN k = 240 ∨ ktN k = 241 := by unfold ktN; split <;> simp
theorem Wk.len {k : Wk} (h : k.ok) : k.bx.length ≤ 8 := by
 cases k with
 | free t b => simp [Wk.bx]
 | row t b n x y z => rw [show (Wk.row t b n x y z).bx = wbN b n x y z from rfl, wbN_len]; exact h.2.2.1
def WoAns (fs : List Ft) (D : Bd) (f : Ft) (w : World) (e : Ending) (w' : World) : Prop :=
 (match stood fs D f with
  | .inl x => ∃ v, e = .returned (.tuple #[.nilIface, .int .i64 x.1, v]) ∧ SRow w' w.heap.size v x.2
  | .inr l => if (l.any fun b => !bxOk b) = true then ∃ v, e = .returned (.tuple #[.nilIface, .int .i64 5, v]) ∧ SRow w' w.heap.size v [f.nm]
   else ∃ k : Wk, k.ok ∧ k.bx = l ∧ k.t = ktN (kdF fs f) ∧ (f.kd ≠ 3 → emp f.on = true → k = .free (ktN f.kd) (ftB f)) ∧ e = .returned (.tuple #[k.v, .int .i64 0, .slice none 0 0])) ∧ Below w.heap.size w w'
theorem wkU_ok {fs : List Ft} {f : Ft} (hf : Fb f) (ho : f.kd = 3 → bxS 24 (ftB (ofF fs f))) : (wkU fs f).ok := by
 unfold wkU
 split
 ·rename_i h3
  refine ⟨ktN_or _, bxS_mono (ho h3) (by omega), by have := hf.ct; omega, hf.far⟩
 ·exact ⟨ktN_or _, bxS_mono hf.bx (by omega)⟩
theorem unmoved_any {B g gc bm cap : Nat} {vd vw : Value} {fs : List Ft} {ws : List Wk} {D : Bd} {f : Ft} {w : World} (hP : Pdm w B fs g gc bm cap vd vw ws D) (hf : Fb f) (hs : f.ov.size ≤ maxLen) (hn : D.done.length ≤ 900)
  (hof : f.kd = 3 → ∃ j, byOf fs D.done f.ov = j + 1 ∧ ws[j]? = some (.free (ktN (ofF fs f).kd) (ftB (ofF fs f)))) :
  Calls Tryz.prog 152 #[.pointer (some ⟨g, 0, none⟩), ftv f] w fun e w' => e = .returned (wkU fs f).v ∧ Below w.heap.size w w' := by
 rcases hf.kd with h | h | h
 ·have e : (wkU fs f).v = .iface 240 (bxv (ftB f)) := by unfold wkU; rw [h]; rfl
  rw [e];exact unmoved1_any g f w h
 ·have e : (wkU fs f).v = .iface 241 (bxv (ftB f)) := by unfold wkU; rw [h]; rfl
  rw [e];exact unmoved2_any g f w h
 ·obtain ⟨j, hj, hw⟩ := hof h
  obtain ⟨c, hc⟩ : ∃ c : Nat, f.ct = (c : Int) := ⟨f.ct.toNat, by have := hf.ct; omega⟩
  have e : (wkU fs f).v = .iface 243 (.agg #[.iface (ktN (ofF fs f).kd) (bxv (ftB (ofF fs f))), .int .i64 f.ct, .int .i64 f.dx, .int .i64 f.dy, .int .i64 f.dz]) := by
   unfold wkU;rw [if_pos h, hc];rfl
  rw [e];have hjl := (List.getElem?_eq_some_iff.1 hw).1;have hl := hP.len;obtain ⟨u, cw, rfl, _, _, hg⟩ := own_form hP.wk;obtain ⟨gw, rfl, _, hgl, hx⟩ := hg (by omega);exact unmoved3_any g gw bm _ cw cap j _ _ _ _ fs D.done f w h hs hP.blk hP.mp hj (by omega) (by omega) (hx j _ (by rw [List.getElem?_map, hw]; rfl)) hgl
theorem workOf_any {B g gc bm cap i : Nat} {vd vw : Value} {fs : List Ft} {ws : List Wk} {D : Bd} {f : Ft} {w : World} (hP : Pdm w B fs g gc bm cap vd vw ws D) (hF : Fine fs) (hfi : fs[i]? = some f) (hok : Okd fs D) (hn : D.done.length ≤ 900)
  (hs : f.ov.size ≤ maxLen) (hos : f.on.size ≤ maxLen) (hof : f.kd = 3 → bxS 24 (ftB (ofF fs f)) ∧ ∃ j, byOf fs D.done f.ov = j + 1 ∧ ws[j]? = some (.free (ktN (ofF fs f).kd) (ftB (ofF fs f)))) :
  Calls Tryz.prog 117 #[.pointer (some ⟨g, 0, none⟩), ftv f] w (WoAns fs D f w) := by
 have hfb := ftr_fb (hF.right f (List.mem_of_getElem? hfi));have HUN := hide (fun W (h : Below w.heap.size w W) => unmoved_any (hP.bel h) hfb hs hn (fun h3 => (hof h3).2));have HUO := hide (wkU_ok hfb (fun h3 => (hof h3).1));have HP := hide (fun W (h : Below w.heap.size w W) => hP.bel h);have HFB := hide hfb;have HOK := hide hok;have HOS := hide hos
 obtain ⟨k0, hk0⟩ : ∃ k, wkU fs f = k := ⟨_, rfl⟩
 rw [hk0] at HUN HUO;have HKU := hide hk0;clear hP hF hfi hok hn hs hos hof hfb hk0;unfold ftv at HUN ⊢;go_enter Tryz.func117, Tryz.ntmps117;go_wp2_with fail;have hbA := ba (bfl w.heap.size w) (.cells #[.string f.nm, .string f.on, .string f.ov, .int .i64 f.kd, .int .i64 f.sd, .int .i64 f.x0, .int .i64 f.y0, .int .i64 f.z0, .int .i64 f.x1, .int .i64 f.y1, .int .i64 f.z1, .int .i64 f.ct, .int .i64 f.dx, .int .i64 f.dy, .int .i64 f.dz] 75);refine (zu HUN _ hbA).mono ?_;rintro e W1 ⟨rfl, hb1⟩;have HB1 := hide (bc hbA hb1);have HV1 := hide ((vb_new w 75 (ftc f) w.heap.size rfl).bel hb1)
 have c1 := (zu HV1).cell (m := 1) rfl;clear hb1 hbA HUN
 go_upto_if 14 with fail
 clear c1
 go_cut [7] (fun s7 wx => ∃ (l : List Bx) (k : Wk), stood fs D f = .inr l ∧ s7 = k.v ∧ k.ok ∧ k.bx = l ∧ k.t = ktN (kdF fs f) ∧ (f.kd ≠ 3 → emp f.on = true → k = .free (ktN f.kd) (ftB f)) ∧ Below w.heap.size w wx ∧ vb wx w.heap.size 75 (ftc f))
 case first =>
  by_cases ho : emp f.on = true
  ·have b1 : (!f.on.toList.isEmpty) = false := by
    have : f.on.toList.isEmpty = emp f.on := by rw [emp_l]; cases f.on.toList <;> rfl
    rw [this, ho];rfl
   rw [b1];have HST := hide (show stood fs D f = .inr (bxs fs f) by unfold stood; rw [if_pos ho]);clear b1 ho;go_wp2_with fail
   go_meet
   case rel =>
    have hk := zu HKU;refine ⟨_, k0, zu HST, rfl, zu HUO, by rw [← hk, wkU_bx], by rw [← hk, wkU_t], fun h3 _ => ?_, zu HB1, zu HV1⟩;rw [← hk];unfold wkU;rw [if_neg h3]
  ·have ho' : emp f.on = false := by simpa using ho
   have b1 : (!f.on.toList.isEmpty) = true := by
    have : f.on.toList.isEmpty = emp f.on := by rw [emp_l]; cases f.on.toList <;> rfl
    rw [this, ho'];rfl
   rw [b1];obtain ⟨h3, hd1, hd2⟩ := (zu HFB).on ho'
   obtain ⟨sd, hsd⟩ : ∃ c : Nat, f.sd = (c : Int) := ⟨f.sd.toNat, by omega⟩
   obtain ⟨nb, hnb⟩ : ∃ c : Nat, byOf fs D.done f.on = c := ⟨_, rfl⟩
   have htl : tlds fs D = sqPs D.cs 13824 := sqPs_tld (zu HOK).iv 13824 (Nat.le_refl _);have hfc : Fce D.cs _ (ofO (tlds fs D) nb sd) := face_of (by omega);have hsm : ∀ b ∈ ofO (tlds fs D) nb sd, bxS 1000 b := ofO_S;have hln : (ofO (tlds fs D) nb sd).length ≤ 100000 := by have := ofO_len_le (tlds fs D) nb sd; have := tlds_len fs D; omega
   obtain ⟨lf, hlf⟩ : ∃ l, ofO (tlds fs D) nb sd = l := ⟨_, rfl⟩
   rw [hlf] at hfc hsm hln
   have hst : stood fs D f = if lf = [] then .inl (8, [f.nm, f.on]) else if 1 < pcsL lf then .inl (13, [f.nm, f.on]) else .inr [mvB (ftB f) (hul lf).x0 (hul lf).y0 (hul lf).z0] := by
    unfold stood;rw [if_neg ho, hnb, hsd];simp only [Int.toNat_natCast, hlf]
   have HST := hide hst;have HPC := hide hfc.pieces;have HFP := hide (fun W (h : Below w.heap.size w W) => faceP_any g gc bm cap vd vw fs D.done D.cs f.on sd nb lf W (zu HP W h).blk (zu HP W h).cel (zu HP W h).mp (zu HOS) hnb (by rw [← htl]; exact hlf) hfc.nodup hsm hln);have HSM := hide hsm;have HSD := hide hsd;have HK3 := hide h3;have HHO := hide ho;clear b1 ho ho' h3 hd1 hd2 hnb htl hfc hsm hln hlf hst;have c0 := (zu HV1).cell (m := 0) rfl;have c1 := (zu HV1).cell (m := 1) rfl;have c4 := (zu HV1).cell (m := 4) rfl;rw [hsd] at c4;clear hsd;go_wp2_with fail;refine (zu HFP _ (zu HB1)).mono ?_
   rintro e W2 ⟨rfl, hb2⟩;have HB2 := hide (bc (zu HB1) hb2);have hv2 := (zu HV1).bel hb2;have HV2 := hide hv2;clear hb2 hv2 c0 c1 c4
   by_cases h0 : lf = []
   ·have hfc : fcP f.on sd lf = fcN ⟨#[]⟩ 0 0 0 bx0 := by unfold fcP; rw [if_pos h0]
    rw [hfc];have HST1 := hide (show stood fs D f = .inl (8, [f.nm, f.on]) by rw [zu HST, if_pos h0]);unfold fcN bx0;simp only;clear hfc
    go_upto_region 5 with fail
    have hbZ := ba (bfl W2.heap.size W2) (.cells #[.string ⟨#[]⟩, .int .i64 0, .int .i64 0, .int .i64 0, .int .i64 0, .int .i64 0, .int .i64 0, .int .i64 0, .int .i64 0, .int .i64 0] 43);have hvZ := (zu HV2).bel hbZ;have HBZ := hide (bc (zu HB2) hbZ);refine Go.Code.wp_mono (Only.to (fun _ _ h => h)) (wo5 (hide (hvZ.cell (m := 0) rfl)) (hide (hvZ.cell (m := 1) rfl)) ?_);intro n4 W3 hb3 hv3 hn3
    have HE := hide (show WoAns fs D f w (.returned (.tuple #[.nilIface, .int .i64 8, .slice (some ⟨n4, 0, none⟩) 2 2])) W3 by
     unfold WoAns;rw [zu HST1]
     exact ⟨⟨_, rfl, (show vb W3 n4 9 (strs [f.nm, f.on]) from hv3).srow (Nat.le_trans (zu HBZ).size hn3) (by simp)⟩, bc (zu HBZ) hb3⟩)
    clear hb3 hv3 hn3 hbZ hvZ;go_wp2_with fail;refine bodyPost_ret (v := .tuple #[.nilIface, .int .i64 8, .slice (some ⟨n4, 0, none⟩) 2 2]) (by simp [results, Tryz.results117, go_sem]) rfl ?_;exact zu HE
   ·obtain ⟨ar, har⟩ : ∃ n, lf.length = n := ⟨_, rfl⟩
    have ha0 : ar ≠ 0 := fun e => h0 (List.eq_nil_of_length_eq_zero (har.trans e))
    have e0 : ((ar : Int) == 0) = false := by simpa using ha0
    obtain ⟨pc, hpc⟩ : ∃ n, pcsL lf = n := ⟨_, rfl⟩
    have hfc : fcP f.on sd lf = fcN f.on (sd : Int) (ar : Int) (pc : Int) (hul lf) := by
     unfold fcP;rw [if_neg h0, ← zu HPC, hpc, har]
    rw [hfc]
    obtain ⟨⟨q0, q1, q2, q3, q4, q5⟩, hq⟩ : ∃ b, hul lf = b := ⟨_, rfl⟩
    have HQ := hide hq;rw [hq];unfold fcN;simp only;clear hfc har ha0 hq
    by_cases h1p : 1 < pc
    ·have e1 : decide ((1 : Int) < (pc : Int)) = true := dt (by omega)
     have HST1 := hide (show stood fs D f = .inl (13, [f.nm, f.on]) by rw [zu HST, if_neg h0, hpc, if_pos h1p]);clear hpc h1p
     go_upto_region 7 with fail
     have hbZ := ba (bfl W2.heap.size W2) (.cells #[.string f.on, .int .i64 (sd : Int), .int .i64 (ar : Int), .int .i64 (pc : Int), .int .i64 q0, .int .i64 q1, .int .i64 q2, .int .i64 q3, .int .i64 q4, .int .i64 q5] 43);have hvZ := (zu HV2).bel hbZ;have HBZ := hide (bc (zu HB2) hbZ);refine Go.Code.wp_mono (Only.to (fun _ _ h => h)) (wo7 (hide (hvZ.cell (m := 0) rfl)) (hide (hvZ.cell (m := 1) rfl)) ?_);intro n4 W3 hb3 hv3 hn3
     have HE := hide (show WoAns fs D f w (.returned (.tuple #[.nilIface, .int .i64 13, .slice (some ⟨n4, 0, none⟩) 2 2])) W3 by
      unfold WoAns;rw [zu HST1]
      exact ⟨⟨_, rfl, (show vb W3 n4 9 (strs [f.nm, f.on]) from hv3).srow (Nat.le_trans (zu HBZ).size hn3) (by simp)⟩, bc (zu HBZ) hb3⟩)
     clear hb3 hv3 hn3 hbZ hvZ;go_wp2_with fail;refine bodyPost_ret (v := .tuple #[.nilIface, .int .i64 13, .slice (some ⟨n4, 0, none⟩) 2 2]) (by simp [results, Tryz.results117, go_sem]) rfl ?_;exact zu HE
    ·have e1 : decide ((1 : Int) < (pc : Int)) = false := df (by omega)
     have HST1 := hide (show stood fs D f = .inr [mvB (ftB f) q0 q1 q2] by rw [zu HST, if_neg h0, hpc, if_neg h1p, zu HQ])
     have hk0v : k0 = .free (ktN f.kd) (ftB f) := by
      rw [← zu HKU];unfold wkU;rw [if_neg (zu HK3)]
     obtain ⟨⟨a1, a2⟩, ⟨a3, a4⟩, ⟨a5, a6⟩, _⟩ : bxS 1000 ⟨q0, q1, q2, q3, q4, q5⟩ := by rw [← zu HQ]; exact hul_S h0 (zu HSM)
     have HMV := hide (fun W => workMoved_any (ktN f.kd) (ftB f) q0 q1 q2 W (ktN_or _) (bxS_mono (zu HFB).bx (by omega)) ⟨a1, a2⟩ ⟨a3, a4⟩ ⟨a5, a6⟩);have HMS := hide (mvB_S (zu HFB).bx ⟨a1, a2⟩ ⟨a3, a4⟩ ⟨a5, a6⟩);have HLW := hide (fun W => lowest_any ⟨q0, q1, q2, q3, q4, q5⟩ W);have hk0e : k0.v = .iface (ktN f.kd) (bxv (ftB f)) := by rw [hk0v]; rfl
     rw [hk0e]
     obtain ⟨bv, hbv⟩ : ∃ b, bxv (ftB f) = b := ⟨_, rfl⟩
     rw [hbv] at HMV ⊢;unfold plv at HMV;unfold bxv at HLW;simp only at HLW;clear hpc h1p hk0v hk0e hbv a1 a2 a3 a4 a5 a6 h0;go_wp2_with fail;refine (zu HLW _).mono ?_;rintro e W3 ⟨rfl, hb3⟩;have hbZ := ba (bfl W2.heap.size W2) (.cells #[.string f.on, .int .i64 (sd : Int), .int .i64 (ar : Int), .int .i64 (pc : Int), .int .i64 q0, .int .i64 q1, .int .i64 q2, .int .i64 q3, .int .i64 q4, .int .i64 q5] 43);have HB3 := hide (bc (bc (zu HB2) hbZ) hb3);have HV3 := hide (((zu HV2).bel hbZ).bel hb3);clear hb3 hbZ;go_wp2_with fail;refine (zu HMV _).mono ?_;rintro e W4 ⟨rfl, hb4⟩
     have HB4 := hide (bc (zu HB3) hb4);have HV4 := hide ((zu HV3).bel hb4);clear hb4;go_wp2_with fail
     go_meet
     case rel =>
      refine ⟨_, .free (ktN f.kd) (mvB (ftB f) q0 q1 q2), zu HST1, rfl, ⟨ktN_or _, bxS_mono (zu HMS) (by omega)⟩, rfl, ?_, fun _ h => (zu HHO h).elim, zu HB4, zu HV4⟩
      show ktN f.kd = ktN (kdF fs f)
      unfold kdF;rw [if_neg (zu HK3)]
 case rest =>
  obtain ⟨l, k, hst, rfl, hko, hkb, hkt, hkf, hb, hv⟩ := hcut;have HST := hide hst;have HKO := hide hko;have HKB := hide hkb;have HKT := hide hkt;have HKF := hide hkf;have HB := hide hb;have HV := hide hv;obtain ⟨t, u, fn, hkv, hfn, hme, hbx⟩ := Wk.boxes hko;rw [hkb] at hbx;have HKV := hide hkv;have HBX := hide hbx;clear hst hkb hkt hkf hb hv hko hbx HKU HUO HB1 HV1;rw [hkv];clear hkv
  rcases hfn with rfl | rfl | rfl
  ·go_wp2_with fail
   refine (zu HBX _).mono ?_;rintro e W1 ⟨⟨ua, p, n, cu, rfl, hl, hsl, _⟩, hb1⟩;have HB1 := hide (bc (zu HB) hb1);have HV1 := hide ((zu HV).bel hb1);have HCF := hide (containsF_any l n cu p 0 ua W1 hl (by have := Wk.len (zu HKO); rw [zu HKB] at this; omega) hsl)
   obtain ⟨r, hr⟩ : ∃ r, (l.any fun b => !bxOk b) = r := ⟨_, rfl⟩
   rw [hr] at HCF;have HR := hide hr;clear hb1 hsl hl hr;go_wp2_with fail;refine (zu HCF).mono ?_;rintro e W2 ⟨rfl, hb2⟩;have HB2 := hide (bc (zu HB1) hb2);have HV2 := hide ((zu HV1).bel hb2);clear hb2
   cases r with
   | true =>
    go_upto_region 10 with fail
    refine Go.Code.wp_mono (Only.to (fun _ _ h => h)) (wo10 (hide ((zu HV2).cell (m := 0) rfl)) ?_);intro n4 W3 hb3 hv3 hn3
    have HE := hide (show WoAns fs D f w (.returned (.tuple #[.nilIface, .int .i64 5, .slice (some ⟨n4, 0, none⟩) 1 1])) W3 by
     unfold WoAns;rw [zu HST];simp only [zu HR, if_true]
     exact ⟨⟨_, rfl, (show vb W3 n4 9 (strs [f.nm]) from hv3).srow (Nat.le_trans (zu HB2).size hn3) (by simp)⟩, bc (zu HB2) hb3⟩)
    clear hb3 hv3 hn3;go_wp2_with fail;refine bodyPost_ret (v := .tuple #[.nilIface, .int .i64 5, .slice (some ⟨n4, 0, none⟩) 1 1]) (by simp [results, Tryz.results117, go_sem]) rfl ?_;exact zu HE
   | false =>
    have HE := hide (show WoAns fs D f w (.returned (.tuple #[.iface t u, .int .i64 0, .slice none 0 0])) W2 by
     unfold WoAns;rw [zu HST];simp only [zu HR]
     exact ⟨⟨k, zu HKO, zu HKB, zu HKT, zu HKF, by rw [zu HKV]⟩, zu HB2⟩)
    go_wp2_with fail;refine bodyPost_ret (v := .tuple #[.iface t u, .int .i64 0, .slice none 0 0]) (by simp [results, Tryz.results117, go_sem]) rfl ?_;exact zu HE
  ·go_wp2_with fail
   refine (zu HBX _).mono ?_;rintro e W1 ⟨⟨ua, p, n, cu, rfl, hl, hsl, _⟩, hb1⟩;have HB1 := hide (bc (zu HB) hb1);have HV1 := hide ((zu HV).bel hb1);have HCF := hide (containsF_any l n cu p 0 ua W1 hl (by have := Wk.len (zu HKO); rw [zu HKB] at this; omega) hsl)
   obtain ⟨r, hr⟩ : ∃ r, (l.any fun b => !bxOk b) = r := ⟨_, rfl⟩
   rw [hr] at HCF;have HR := hide hr;clear hb1 hsl hl hr;go_wp2_with fail;refine (zu HCF).mono ?_;rintro e W2 ⟨rfl, hb2⟩;have HB2 := hide (bc (zu HB1) hb2);have HV2 := hide ((zu HV1).bel hb2);clear hb2
   cases r with
   | true =>
    go_upto_region 10 with fail
    refine Go.Code.wp_mono (Only.to (fun _ _ h => h)) (wo10 (hide ((zu HV2).cell (m := 0) rfl)) ?_);intro n4 W3 hb3 hv3 hn3
    have HE := hide (show WoAns fs D f w (.returned (.tuple #[.nilIface, .int .i64 5, .slice (some ⟨n4, 0, none⟩) 1 1])) W3 by
     unfold WoAns;rw [zu HST];simp only [zu HR, if_true]
     exact ⟨⟨_, rfl, (show vb W3 n4 9 (strs [f.nm]) from hv3).srow (Nat.le_trans (zu HB2).size hn3) (by simp)⟩, bc (zu HB2) hb3⟩)
    clear hb3 hv3 hn3;go_wp2_with fail;refine bodyPost_ret (v := .tuple #[.nilIface, .int .i64 5, .slice (some ⟨n4, 0, none⟩) 1 1]) (by simp [results, Tryz.results117, go_sem]) rfl ?_;exact zu HE
   | false =>
    have HE := hide (show WoAns fs D f w (.returned (.tuple #[.iface t u, .int .i64 0, .slice none 0 0])) W2 by
     unfold WoAns;rw [zu HST];simp only [zu HR]
     exact ⟨⟨k, zu HKO, zu HKB, zu HKT, zu HKF, by rw [zu HKV]⟩, zu HB2⟩)
    go_wp2_with fail;refine bodyPost_ret (v := .tuple #[.iface t u, .int .i64 0, .slice none 0 0]) (by simp [results, Tryz.results117, go_sem]) rfl ?_;exact zu HE
  ·go_wp2_with fail
   refine (zu HBX _).mono ?_;rintro e W1 ⟨⟨ua, p, n, cu, rfl, hl, hsl, _⟩, hb1⟩;have HB1 := hide (bc (zu HB) hb1);have HV1 := hide ((zu HV).bel hb1);have HCF := hide (containsF_any l n cu p 0 ua W1 hl (by have := Wk.len (zu HKO); rw [zu HKB] at this; omega) hsl)
   obtain ⟨r, hr⟩ : ∃ r, (l.any fun b => !bxOk b) = r := ⟨_, rfl⟩
   rw [hr] at HCF;have HR := hide hr;clear hb1 hsl hl hr;go_wp2_with fail;refine (zu HCF).mono ?_;rintro e W2 ⟨rfl, hb2⟩;have HB2 := hide (bc (zu HB1) hb2);have HV2 := hide ((zu HV1).bel hb2);clear hb2
   cases r with
   | true =>
    go_upto_region 10 with fail
    refine Go.Code.wp_mono (Only.to (fun _ _ h => h)) (wo10 (hide ((zu HV2).cell (m := 0) rfl)) ?_);intro n4 W3 hb3 hv3 hn3
    have HE := hide (show WoAns fs D f w (.returned (.tuple #[.nilIface, .int .i64 5, .slice (some ⟨n4, 0, none⟩) 1 1])) W3 by
     unfold WoAns;rw [zu HST];simp only [zu HR, if_true]
     exact ⟨⟨_, rfl, (show vb W3 n4 9 (strs [f.nm]) from hv3).srow (Nat.le_trans (zu HB2).size hn3) (by simp)⟩, bc (zu HB2) hb3⟩)
    clear hb3 hv3 hn3;go_wp2_with fail;refine bodyPost_ret (v := .tuple #[.nilIface, .int .i64 5, .slice (some ⟨n4, 0, none⟩) 1 1]) (by simp [results, Tryz.results117, go_sem]) rfl ?_;exact zu HE
   | false =>
    have HE := hide (show WoAns fs D f w (.returned (.tuple #[.iface t u, .int .i64 0, .slice none 0 0])) W2 by
     unfold WoAns;rw [zu HST];simp only [zu HR]
     exact ⟨⟨k, zu HKO, zu HKB, zu HKT, zu HKF, by rw [zu HKV]⟩, zu HB2⟩)
    go_wp2_with fail;refine bodyPost_ret (v := .tuple #[.iface t u, .int .i64 0, .slice none 0 0]) (by simp [results, Tryz.results117, go_sem]) rfl ?_;exact zu HE
end Go.Proofs.YtkiplmabjeadgaaGreat
