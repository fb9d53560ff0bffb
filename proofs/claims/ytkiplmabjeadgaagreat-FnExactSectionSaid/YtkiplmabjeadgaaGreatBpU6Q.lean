/- The program's unmoved work. -/
import Derived.Test.YtkiplmabjeadgaaGreatInv3Q
import Derived.Test.YtkiplmabjeadgaaGreatBpW6Q
import Derived.Test.YtkiplmabjeadgaaGreatMpNQ
namespace Go.Proofs.YtkiplmabjeadgaaGreat
set_option maxRecDepth 100000
set_option maxHeartbeats 16000000
open Go.ChangeShapes Go.WideShapes Go.ChangeAt Go.RowKit
set_option linter.unusedVariables false
set_option linter.unusedSimpArgs false
noncomputable def rg152 (id : Nat) : Go.Code := match Tryz.f152.body with | some c => (regOfZ id c).getD .skip | none => .skip
theorem um6 {s1 s2 s4 s5 s6 s7 s8 s9 s10 s11 s12 s13 s14 s15 s16 s17 s18 s19 s20 s21 s22 s23 s24 s25 s26 s27 s28 s29 s30 s31 s32 s33 s34 s35 s36 s37 s38 s39 s40 s41 s42 s43 : Value} {g gF gw bm n cw nb j : Nat} {ov : ByteArray} {ct x y z : Int} {uv : Value} {tt : Nat} {V : World} {K_ : Act → World → Prop} (HLK : Hid (∀ X, Below V.heap.size V X → (Instr.lookup 82 (.map (some bm)) (.string ov) false).run Tryz.prog X = .ok (.int .i64 (nb : Int)) X))
  (HG2 : Hid (V.cell? ⟨g, 2, none⟩ = some (.slice (some ⟨gw, 0, none⟩) n cw))) (HG3 : Hid (V.cell? ⟨g, 3, none⟩ = some (.map (some bm)))) (HF2 : Hid (V.cell? ⟨gF, 2, none⟩ = some (.string ov))) (HF11 : Hid (V.cell? ⟨gF, 11, none⟩ = some (.int .i64 (ct)))) (HF12 : Hid (V.cell? ⟨gF, 12, none⟩ = some (.int .i64 (x)))) (HF13 : Hid (V.cell? ⟨gF, 13, none⟩ = some (.int .i64 (y)))) (HF14 : Hid (V.cell? ⟨gF, 14, none⟩ = some (.int .i64 (z)))) (HW : Hid (V.cell? ⟨gw, j, none⟩ = some (.iface tt uv)))
  (HW11 : Hid (IntKind.i64.wrap ((nb : Int) - 1) = (j : Int)))
  (HX12 : Hid (j < n))
  (hQ : ∀  (W1 : World), Below V.heap.size V W1 → K_ { tmps := #[.pointer (some ⟨g, 0, none⟩), s1, s2, .pointer (some ⟨gF, 0, none⟩), .iface 243 (.agg #[.iface tt uv, .int .i64 (ct), .int .i64 (x), .int .i64 (y), .int .i64 (z)]), s5, s6, s7, s8, s9, s10, s11, s12, s13, s14, s15, s16, s17, s18, .pointer (some ⟨g, 0, none⟩), .pointer (some ⟨g, 0, none⟩), .pointer (some ⟨g, 2, none⟩), .slice (some ⟨gw, 0, none⟩) n cw, .pointer (some ⟨g, 0, none⟩), .pointer (some ⟨g, 0, none⟩), .pointer (some ⟨g, 3, none⟩), .map (some bm), .pointer (some ⟨gF, 2, none⟩), .string ov, .int .i64 (nb : Int), .int .i64 (j : Int), .pointer (some ⟨gw, j, none⟩), .iface tt uv, .pointer (some ⟨gF, 11, none⟩), .int .i64 (ct), .pointer (some ⟨gF, 12, none⟩), .int .i64 (x), .pointer (some ⟨gF, 13, none⟩), .int .i64 (y), .pointer (some ⟨gF, 14, none⟩), .int .i64 (z), .agg #[.int .i64 (x), .int .i64 (y), .int .i64 (z)], .agg #[.iface tt uv, .int .i64 (ct), .int .i64 (x), .int .i64 (y), .int .i64 (z)], .iface 243 (.agg #[.iface tt uv, .int .i64 (ct), .int .i64 (x), .int .i64 (y), .int .i64 (z)])], defers := [] } W1) :
  Go.Code.wp Tryz.prog (rg152 6) (Only K_) { tmps := #[.pointer (some ⟨g, 0, none⟩), s1, s2, .pointer (some ⟨gF, 0, none⟩), s4, s5, s6, s7, s8, s9, s10, s11, s12, s13, s14, s15, s16, s17, s18, s19, s20, s21, s22, s23, s24, s25, s26, s27, s28, s29, s30, s31, s32, s33, s34, s35, s36, s37, s38, s39, s40, s41, s42, s43], defers := [] } V := by
 have HQ := hide hQ;clear hQ
 conv => arg 2; whnf
 refine wp_region_inv2 (fun Lb A W => ∃ (u0 u1 u2 u3 u4 u5 u6 u7 u8 u9 u10 u11 u12 u13 u14 u15 u16 u17 u18 u19 u20 u21 u22 u23 u24 u25 : Bool) (dm : Nat), Lb = #[u0, u1, u2, u3, u4, u5, u6, u7, u8, u9, u10, u11, u12, u13, u14, u15, u16, u17, u18, u19, u20, u21, u22, u23, u24, u25] ∧ A = ({ tmps := #[.pointer (some ⟨g, 0, none⟩), s1, s2, .pointer (some ⟨gF, 0, none⟩), (bif u25 then .iface 243 (.agg #[.iface tt uv, .int .i64 (ct), .int .i64 (x), .int .i64 (y), .int .i64 (z)]) else s4), s5, s6, s7, s8, s9, s10, s11, s12, s13, s14, s15, s16, s17, s18, (bif u0 then .pointer (some ⟨g, 0, none⟩) else s19), (bif u1 then .pointer (some ⟨g, 0, none⟩) else s20), (bif u2 then .pointer (some ⟨g, 2, none⟩) else s21), (bif u3 then .slice (some ⟨gw, 0, none⟩) n cw else s22), (bif u4 then .pointer (some ⟨g, 0, none⟩) else s23), (bif u5 then .pointer (some ⟨g, 0, none⟩) else s24), (bif u6 then .pointer (some ⟨g, 3, none⟩) else s25), (bif u7 then .map (some bm) else s26), (bif u8 then .pointer (some ⟨gF, 2, none⟩) else s27), (bif u9 then .string ov else s28), (bif u10 then .int .i64 (nb : Int) else s29), (bif u11 then .int .i64 (j : Int) else s30), (bif u12 then .pointer (some ⟨gw, j, none⟩) else s31), (bif u13 then .iface tt uv else s32), (bif u14 then .pointer (some ⟨gF, 11, none⟩) else s33), (bif u15 then .int .i64 (ct) else s34), (bif u16 then .pointer (some ⟨gF, 12, none⟩) else s35), (bif u17 then .int .i64 (x) else s36), (bif u18 then .pointer (some ⟨gF, 13, none⟩) else s37), (bif u19 then .int .i64 (y) else s38), (bif u20 then .pointer (some ⟨gF, 14, none⟩) else s39), (bif u21 then .int .i64 (z) else s40), (bif u22 then .agg #[.int .i64 (x), .int .i64 (y), .int .i64 (z)] else s41), (bif u23 then .agg #[.iface tt uv, .int .i64 (ct), .int .i64 (x), .int .i64 (y), .int .i64 (z)] else s42), (bif u24 then .iface 243 (.agg #[.iface tt uv, .int .i64 (ct), .int .i64 (x), .int .i64 (y), .int .i64 (z)]) else s43)], defers := [] } : Act) ∧ Below V.heap.size V W ∧ (u25 = true → u0 = true ∧ u1 = true ∧ u2 = true ∧ u3 = true ∧ u4 = true ∧ u5 = true ∧ u6 = true ∧ u7 = true ∧ u8 = true ∧ u9 = true ∧ u10 = true ∧ u11 = true ∧ u12 = true ∧ u13 = true ∧ u14 = true ∧ u15 = true ∧ u16 = true ∧ u17 = true ∧ u18 = true ∧ u19 = true ∧ u20 = true ∧ u21 = true ∧ u22 = true ∧ u23 = true ∧ u24 = true)) (by kernel_rfl) (by kernel_rfl) ?h0 ?hstep ?hend
 case h0 =>
  exact ⟨false, false, false, false, false, false, false, false, false, false, false, false, false, false, false, false, false, false, false, false, false, false, false, false, false, false, 0, rfl, rfl, Below.drew (bfl _ _), zf⟩
 case hstep =>
  intro Lb A W hI;obtain ⟨u0, u1, u2, u3, u4, hI⟩ := hI;obtain ⟨u5, u6, u7, u8, u9, hI⟩ := hI;obtain ⟨u10, u11, u12, u13, u14, hI⟩ := hI;obtain ⟨u15, u16, u17, u18, u19, hI⟩ := hI;obtain ⟨u20, u21, u22, u23, u24, hI⟩ := hI;obtain ⟨u25, dm, hI⟩ := hI;obtain ⟨hLb, hI⟩ := hI;obtain ⟨hA, hI⟩ := hI;obtain ⟨kB, hI⟩ := hI;have kF := hI;clear hI;subst hLb;subst hA;replace kB := hide kB;replace kF := hide kF;refine ⟨?_, ?_, ?_, ?_, ?_, ?_, ?_, ?_, ?_, ?_, ?_, ?_, ?_, ?_, ?_, ?_, ?_, ?_, ?_, ?_, ?_, ?_, ?_, ?_, ?_, ?_, trivial⟩
  ·intro h0 hd K hK
   have z : u0 = false := h0;have z25_ : u25 = false := znb fun hu => z.symm.trans ((zu kF hu).1)
   subst z25_;subst z;clear h0 hd;rw [if_pos (by rfl)];go_simp;exact zu hK _ _ ⟨true, u1, u2, u3, u4, u5, u6, u7, u8, u9, u10, u11, u12, u13, u14, u15, u16, u17, u18, u19, u20, u21, u22, u23, u24, false, dm, rfl, rfl, zu kB, zf⟩
  ·intro h0 hd K hK
   have z : u1 = false := h0;have z25_ : u25 = false := znb fun hu => z.symm.trans ((zu kF hu).2.1)
   obtain ⟨rfl⟩ : u0 = true := by simp [Region.binds] at hd; simp [hd]
   subst z25_;subst z;clear h0 hd;rw [if_pos (by rfl)];go_simp;exact zu hK _ _ ⟨true, true, u2, u3, u4, u5, u6, u7, u8, u9, u10, u11, u12, u13, u14, u15, u16, u17, u18, u19, u20, u21, u22, u23, u24, false, dm, rfl, rfl, zu kB, zf⟩
  ·intro h0 hd K hK
   have z : u2 = false := h0;have z25_ : u25 = false := znb fun hu => z.symm.trans ((zu kF hu).2.2.1)
   obtain ⟨rfl⟩ : u1 = true := by simp [Region.binds] at hd; simp [hd]
   subst z25_;subst z;clear h0 hd;rw [if_pos (by rfl)];go_simp;exact zu hK _ _ ⟨u0, true, true, u3, u4, u5, u6, u7, u8, u9, u10, u11, u12, u13, u14, u15, u16, u17, u18, u19, u20, u21, u22, u23, u24, false, dm, rfl, rfl, zu kB, zf⟩
  ·intro h0 hd K hK
   have z : u3 = false := h0;have z25_ : u25 = false := znb fun hu => z.symm.trans ((zu kF hu).2.2.2.1)
   obtain ⟨rfl⟩ : u2 = true := by simp [Region.binds] at hd; simp [hd]
   subst z25_;subst z;clear h0 hd;rw [if_pos (by rfl)];have c0 := keep1 (zu kB) (zu HG2);go_simp;exact zu hK _ _ ⟨u0, u1, true, true, u4, u5, u6, u7, u8, u9, u10, u11, u12, u13, u14, u15, u16, u17, u18, u19, u20, u21, u22, u23, u24, false, dm, rfl, rfl, zu kB, zf⟩
  ·intro h0 hd K hK
   have z : u4 = false := h0;have z25_ : u25 = false := znb fun hu => z.symm.trans ((zu kF hu).2.2.2.2.1)
   subst z25_;subst z;clear h0 hd;rw [if_pos (by rfl)];go_simp;exact zu hK _ _ ⟨u0, u1, u2, u3, true, u5, u6, u7, u8, u9, u10, u11, u12, u13, u14, u15, u16, u17, u18, u19, u20, u21, u22, u23, u24, false, dm, rfl, rfl, zu kB, zf⟩
  ·intro h0 hd K hK
   have z : u5 = false := h0;have z25_ : u25 = false := znb fun hu => z.symm.trans ((zu kF hu).2.2.2.2.2.1)
   obtain ⟨rfl⟩ : u4 = true := by simp [Region.binds] at hd; simp [hd]
   subst z25_;subst z;clear h0 hd;rw [if_pos (by rfl)];go_simp;exact zu hK _ _ ⟨u0, u1, u2, u3, true, true, u6, u7, u8, u9, u10, u11, u12, u13, u14, u15, u16, u17, u18, u19, u20, u21, u22, u23, u24, false, dm, rfl, rfl, zu kB, zf⟩
  ·intro h0 hd K hK
   have z : u6 = false := h0;have z25_ : u25 = false := znb fun hu => z.symm.trans ((zu kF hu).2.2.2.2.2.2.1)
   obtain ⟨rfl⟩ : u5 = true := by simp [Region.binds] at hd; simp [hd]
   subst z25_;subst z;clear h0 hd;rw [if_pos (by rfl)];go_simp;exact zu hK _ _ ⟨u0, u1, u2, u3, u4, true, true, u7, u8, u9, u10, u11, u12, u13, u14, u15, u16, u17, u18, u19, u20, u21, u22, u23, u24, false, dm, rfl, rfl, zu kB, zf⟩
  ·intro h0 hd K hK
   have z : u7 = false := h0;have z25_ : u25 = false := znb fun hu => z.symm.trans ((zu kF hu).2.2.2.2.2.2.2.1)
   obtain ⟨rfl⟩ : u6 = true := by simp [Region.binds] at hd; simp [hd]
   subst z25_;subst z;clear h0 hd;rw [if_pos (by rfl)];have c0 := keep1 (zu kB) (zu HG3);go_simp;exact zu hK _ _ ⟨u0, u1, u2, u3, u4, u5, true, true, u8, u9, u10, u11, u12, u13, u14, u15, u16, u17, u18, u19, u20, u21, u22, u23, u24, false, dm, rfl, rfl, zu kB, zf⟩
  ·intro h0 hd K hK
   have z : u8 = false := h0;have z25_ : u25 = false := znb fun hu => z.symm.trans ((zu kF hu).2.2.2.2.2.2.2.2.1)
   subst z25_;subst z;clear h0 hd;rw [if_pos (by rfl)];go_simp;exact zu hK _ _ ⟨u0, u1, u2, u3, u4, u5, u6, u7, true, u9, u10, u11, u12, u13, u14, u15, u16, u17, u18, u19, u20, u21, u22, u23, u24, false, dm, rfl, rfl, zu kB, zf⟩
  ·intro h0 hd K hK
   have z : u9 = false := h0;have z25_ : u25 = false := znb fun hu => z.symm.trans ((zu kF hu).2.2.2.2.2.2.2.2.2.1)
   obtain ⟨rfl⟩ : u8 = true := by simp [Region.binds] at hd; simp [hd]
   subst z25_;subst z;clear h0 hd;rw [if_pos (by rfl)];have c0 := keep1 (zu kB) (zu HF2);go_simp;exact zu hK _ _ ⟨u0, u1, u2, u3, u4, u5, u6, u7, true, true, u10, u11, u12, u13, u14, u15, u16, u17, u18, u19, u20, u21, u22, u23, u24, false, dm, rfl, rfl, zu kB, zf⟩
  ·intro h0 hd K hK
   have z : u10 = false := h0;have z25_ : u25 = false := znb fun hu => z.symm.trans ((zu kF hu).2.2.2.2.2.2.2.2.2.2.1)
   obtain ⟨rfl, rfl⟩ : u7 = true ∧ u9 = true := by simp [Region.binds] at hd; simp [hd]
   subst z25_;subst z;clear h0 hd;rw [if_pos (by rfl)];have q1 := zu HLK _ (zu kB);go_simp;exact zu hK _ _ ⟨u0, u1, u2, u3, u4, u5, u6, true, u8, true, true, u11, u12, u13, u14, u15, u16, u17, u18, u19, u20, u21, u22, u23, u24, false, dm, rfl, rfl, zu kB, zf⟩
  ·intro h0 hd K hK
   have z : u11 = false := h0;have z25_ : u25 = false := znb fun hu => z.symm.trans ((zu kF hu).2.2.2.2.2.2.2.2.2.2.2.1)
   obtain ⟨rfl⟩ : u10 = true := by simp [Region.binds] at hd; simp [hd]
   subst z25_;subst z;clear h0 hd;rw [if_pos (by rfl)];have wq := zu HW11;go_simp;exact zu hK _ _ ⟨u0, u1, u2, u3, u4, u5, u6, u7, u8, u9, true, true, u12, u13, u14, u15, u16, u17, u18, u19, u20, u21, u22, u23, u24, false, dm, rfl, rfl, zu kB, zf⟩
  ·intro h0 hd K hK
   have z : u12 = false := h0;have z25_ : u25 = false := znb fun hu => z.symm.trans ((zu kF hu).2.2.2.2.2.2.2.2.2.2.2.2.1)
   obtain ⟨rfl, rfl⟩ : u3 = true ∧ u11 = true := by simp [Region.binds] at hd; simp [hd]
   subst z25_;subst z;clear h0 hd;rw [if_pos (by rfl)];have q1 : j < n := zu HX12;have q2 : (j : Int) < (n : Int) := by omega
   go_simp;exact zu hK _ _ ⟨u0, u1, u2, true, u4, u5, u6, u7, u8, u9, u10, true, true, u13, u14, u15, u16, u17, u18, u19, u20, u21, u22, u23, u24, false, dm, rfl, rfl, zu kB, zf⟩
  ·intro h0 hd K hK
   have z : u13 = false := h0;have z25_ : u25 = false := znb fun hu => z.symm.trans ((zu kF hu).2.2.2.2.2.2.2.2.2.2.2.2.2.1)
   obtain ⟨rfl⟩ : u12 = true := by simp [Region.binds] at hd; simp [hd]
   subst z25_;subst z;clear h0 hd;rw [if_pos (by rfl)];have c0 := keep1 (zu kB) (zu HW);go_simp;exact zu hK _ _ ⟨u0, u1, u2, u3, u4, u5, u6, u7, u8, u9, u10, u11, true, true, u14, u15, u16, u17, u18, u19, u20, u21, u22, u23, u24, false, dm, rfl, rfl, zu kB, zf⟩
  ·intro h0 hd K hK
   have z : u14 = false := h0;have z25_ : u25 = false := znb fun hu => z.symm.trans ((zu kF hu).2.2.2.2.2.2.2.2.2.2.2.2.2.2.1)
   subst z25_;subst z;clear h0 hd;rw [if_pos (by rfl)];go_simp;exact zu hK _ _ ⟨u0, u1, u2, u3, u4, u5, u6, u7, u8, u9, u10, u11, u12, u13, true, u15, u16, u17, u18, u19, u20, u21, u22, u23, u24, false, dm, rfl, rfl, zu kB, zf⟩
  ·intro h0 hd K hK
   have z : u15 = false := h0;have z25_ : u25 = false := znb fun hu => z.symm.trans ((zu kF hu).2.2.2.2.2.2.2.2.2.2.2.2.2.2.2.1)
   obtain ⟨rfl⟩ : u14 = true := by simp [Region.binds] at hd; simp [hd]
   subst z25_;subst z;clear h0 hd;rw [if_pos (by rfl)];have c0 := keep1 (zu kB) (zu HF11);go_simp;exact zu hK _ _ ⟨u0, u1, u2, u3, u4, u5, u6, u7, u8, u9, u10, u11, u12, u13, true, true, u16, u17, u18, u19, u20, u21, u22, u23, u24, false, dm, rfl, rfl, zu kB, zf⟩
  ·intro h0 hd K hK
   have z : u16 = false := h0;have z25_ : u25 = false := znb fun hu => z.symm.trans ((zu kF hu).2.2.2.2.2.2.2.2.2.2.2.2.2.2.2.2.1)
   subst z25_;subst z;clear h0 hd;rw [if_pos (by rfl)];go_simp;exact zu hK _ _ ⟨u0, u1, u2, u3, u4, u5, u6, u7, u8, u9, u10, u11, u12, u13, u14, u15, true, u17, u18, u19, u20, u21, u22, u23, u24, false, dm, rfl, rfl, zu kB, zf⟩
  ·intro h0 hd K hK
   have z : u17 = false := h0;have z25_ : u25 = false := znb fun hu => z.symm.trans ((zu kF hu).2.2.2.2.2.2.2.2.2.2.2.2.2.2.2.2.2.1)
   obtain ⟨rfl⟩ : u16 = true := by simp [Region.binds] at hd; simp [hd]
   subst z25_;subst z;clear h0 hd;rw [if_pos (by rfl)];have c0 := keep1 (zu kB) (zu HF12);go_simp;exact zu hK _ _ ⟨u0, u1, u2, u3, u4, u5, u6, u7, u8, u9, u10, u11, u12, u13, u14, u15, true, true, u18, u19, u20, u21, u22, u23, u24, false, dm, rfl, rfl, zu kB, zf⟩
  ·intro h0 hd K hK
   have z : u18 = false := h0;have z25_ : u25 = false := znb fun hu => z.symm.trans ((zu kF hu).2.2.2.2.2.2.2.2.2.2.2.2.2.2.2.2.2.2.1)
   subst z25_;subst z;clear h0 hd;rw [if_pos (by rfl)];go_simp;exact zu hK _ _ ⟨u0, u1, u2, u3, u4, u5, u6, u7, u8, u9, u10, u11, u12, u13, u14, u15, u16, u17, true, u19, u20, u21, u22, u23, u24, false, dm, rfl, rfl, zu kB, zf⟩
  ·intro h0 hd K hK
   have z : u19 = false := h0;have z25_ : u25 = false := znb fun hu => z.symm.trans ((zu kF hu).2.2.2.2.2.2.2.2.2.2.2.2.2.2.2.2.2.2.2.1)
   obtain ⟨rfl⟩ : u18 = true := by simp [Region.binds] at hd; simp [hd]
   subst z25_;subst z;clear h0 hd;rw [if_pos (by rfl)];have c0 := keep1 (zu kB) (zu HF13);go_simp;exact zu hK _ _ ⟨u0, u1, u2, u3, u4, u5, u6, u7, u8, u9, u10, u11, u12, u13, u14, u15, u16, u17, true, true, u20, u21, u22, u23, u24, false, dm, rfl, rfl, zu kB, zf⟩
  ·intro h0 hd K hK
   have z : u20 = false := h0;have z25_ : u25 = false := znb fun hu => z.symm.trans ((zu kF hu).2.2.2.2.2.2.2.2.2.2.2.2.2.2.2.2.2.2.2.2.1)
   subst z25_;subst z;clear h0 hd;rw [if_pos (by rfl)];go_simp;exact zu hK _ _ ⟨u0, u1, u2, u3, u4, u5, u6, u7, u8, u9, u10, u11, u12, u13, u14, u15, u16, u17, u18, u19, true, u21, u22, u23, u24, false, dm, rfl, rfl, zu kB, zf⟩
  ·intro h0 hd K hK
   have z : u21 = false := h0;have z25_ : u25 = false := znb fun hu => z.symm.trans ((zu kF hu).2.2.2.2.2.2.2.2.2.2.2.2.2.2.2.2.2.2.2.2.2.1)
   obtain ⟨rfl⟩ : u20 = true := by simp [Region.binds] at hd; simp [hd]
   subst z25_;subst z;clear h0 hd;rw [if_pos (by rfl)];have c0 := keep1 (zu kB) (zu HF14);go_simp;exact zu hK _ _ ⟨u0, u1, u2, u3, u4, u5, u6, u7, u8, u9, u10, u11, u12, u13, u14, u15, u16, u17, u18, u19, true, true, u22, u23, u24, false, dm, rfl, rfl, zu kB, zf⟩
  ·intro h0 hd K hK
   have z : u22 = false := h0;have z25_ : u25 = false := znb fun hu => z.symm.trans ((zu kF hu).2.2.2.2.2.2.2.2.2.2.2.2.2.2.2.2.2.2.2.2.2.2.1)
   obtain ⟨rfl, rfl, rfl⟩ : u17 = true ∧ u19 = true ∧ u21 = true := by simp [Region.binds] at hd; simp [hd]
   subst z25_;subst z;clear h0 hd;rw [if_pos (by rfl)];go_simp;exact zu hK _ _ ⟨u0, u1, u2, u3, u4, u5, u6, u7, u8, u9, u10, u11, u12, u13, u14, u15, u16, true, u18, true, u20, true, true, u23, u24, false, dm, rfl, rfl, zu kB, zf⟩
  ·intro h0 hd K hK
   have z : u23 = false := h0;have z25_ : u25 = false := znb fun hu => z.symm.trans ((zu kF hu).2.2.2.2.2.2.2.2.2.2.2.2.2.2.2.2.2.2.2.2.2.2.2.1)
   obtain ⟨rfl, rfl, rfl⟩ : u13 = true ∧ u15 = true ∧ u22 = true := by simp [Region.binds] at hd; simp [hd]
   subst z25_;subst z;clear h0 hd;rw [if_pos (by rfl)];go_simp;exact zu hK _ _ ⟨u0, u1, u2, u3, u4, u5, u6, u7, u8, u9, u10, u11, u12, true, u14, true, u16, u17, u18, u19, u20, u21, true, true, u24, false, dm, rfl, rfl, zu kB, zf⟩
  ·intro h0 hd K hK
   have z : u24 = false := h0;have z25_ : u25 = false := znb fun hu => z.symm.trans ((zu kF hu).2.2.2.2.2.2.2.2.2.2.2.2.2.2.2.2.2.2.2.2.2.2.2.2)
   obtain ⟨rfl⟩ : u23 = true := by simp [Region.binds] at hd; simp [hd]
   subst z25_;subst z;clear h0 hd;rw [if_pos (by rfl)];go_simp;exact zu hK _ _ ⟨u0, u1, u2, u3, u4, u5, u6, u7, u8, u9, u10, u11, u12, u13, u14, u15, u16, u17, u18, u19, u20, u21, u22, true, true, false, dm, rfl, rfl, zu kB, zf⟩
  ·intro h0 hd K hK
   have z : u25 = false := h0
   have zd0 : u0 = true ∧ u1 = true ∧ u2 = true ∧ u3 = true ∧ u4 = true ∧ u5 = true ∧ u6 = true ∧ u7 = true ∧ u8 = true ∧ u9 = true ∧ u10 = true ∧ u11 = true ∧ u12 = true ∧ u13 = true ∧ u14 = true ∧ u15 = true ∧ u16 = true ∧ u17 = true ∧ u18 = true ∧ u19 = true ∧ u20 = true ∧ u21 = true ∧ u22 = true ∧ u23 = true ∧ u24 = true := by
    simp [Region.binds] at hd;simp [hd]
   have zd : u0 = true ∧ u1 = true ∧ u2 = true ∧ u3 = true ∧ u4 = true ∧ u5 = true ∧ u6 = true ∧ u7 = true ∧ u8 = true ∧ u9 = true ∧ u10 = true ∧ u11 = true ∧ u12 = true ∧ u13 = true ∧ u14 = true ∧ u15 = true ∧ u16 = true ∧ u17 = true ∧ u18 = true ∧ u19 = true ∧ u20 = true ∧ u21 = true ∧ u22 = true ∧ u23 = true ∧ u24 = true := ⟨zd0.1, zd0.2.1, zd0.2.2.1, zd0.2.2.2.1, zd0.2.2.2.2.1, zd0.2.2.2.2.2.1, zd0.2.2.2.2.2.2.1, zd0.2.2.2.2.2.2.2.1, zd0.2.2.2.2.2.2.2.2.1, zd0.2.2.2.2.2.2.2.2.2.1, zd0.2.2.2.2.2.2.2.2.2.2.1, zd0.2.2.2.2.2.2.2.2.2.2.2.1, zd0.2.2.2.2.2.2.2.2.2.2.2.2.1, zd0.2.2.2.2.2.2.2.2.2.2.2.2.2.1, zd0.2.2.2.2.2.2.2.2.2.2.2.2.2.2.1, zd0.2.2.2.2.2.2.2.2.2.2.2.2.2.2.2.1, zd0.2.2.2.2.2.2.2.2.2.2.2.2.2.2.2.2.1, zd0.2.2.2.2.2.2.2.2.2.2.2.2.2.2.2.2.2.1, zd0.2.2.2.2.2.2.2.2.2.2.2.2.2.2.2.2.2.2.1, zd0.2.2.2.2.2.2.2.2.2.2.2.2.2.2.2.2.2.2.2.1, zd0.2.2.2.2.2.2.2.2.2.2.2.2.2.2.2.2.2.2.2.2.1, zd0.2.2.2.2.2.2.2.2.2.2.2.2.2.2.2.2.2.2.2.2.2.1, zd0.2.2.2.2.2.2.2.2.2.2.2.2.2.2.2.2.2.2.2.2.2.2.1, zd0.2.2.2.2.2.2.2.2.2.2.2.2.2.2.2.2.2.2.2.2.2.2.2.1, zd0.2.2.2.2.2.2.2.2.2.2.2.2.2.2.2.2.2.2.2.2.2.2.2.2⟩
   obtain ⟨rfl, rfl, rfl, rfl, rfl, rfl, rfl, rfl, rfl, rfl, rfl, rfl, rfl, rfl, rfl, rfl, rfl, rfl, rfl, rfl, rfl, rfl, rfl, rfl, rfl⟩ := zd;subst z;clear h0 hd;rw [if_pos (by rfl)];go_simp;exact zu hK _ _ ⟨true, true, true, true, true, true, true, true, true, true, true, true, true, true, true, true, true, true, true, true, true, true, true, true, true, true, dm, rfl, rfl, zu kB, (fun _ => ⟨rfl, rfl, rfl, rfl, rfl, rfl, rfl, rfl, rfl, rfl, rfl, rfl, rfl, rfl, rfl, rfl, rfl, rfl, rfl, rfl, rfl, rfl, rfl, rfl, rfl⟩)⟩
 case hend =>
  intro Lb A W hI;obtain ⟨u0, u1, u2, u3, u4, hI⟩ := hI;obtain ⟨u5, u6, u7, u8, u9, hI⟩ := hI;obtain ⟨u10, u11, u12, u13, u14, hI⟩ := hI;obtain ⟨u15, u16, u17, u18, u19, hI⟩ := hI;obtain ⟨u20, u21, u22, u23, u24, hI⟩ := hI;obtain ⟨u25, dm, hI⟩ := hI;obtain ⟨hLb, hI⟩ := hI;obtain ⟨hA, hI⟩ := hI;obtain ⟨kB, hI⟩ := hI;have kF := hI;clear hI;subst hLb;subst hA;intro hL
  have hl : u0 = true ∧ u1 = true ∧ u2 = true ∧ u3 = true ∧ u4 = true ∧ u5 = true ∧ u6 = true ∧ u7 = true ∧ u8 = true ∧ u9 = true ∧ u10 = true ∧ u11 = true ∧ u12 = true ∧ u13 = true ∧ u14 = true ∧ u15 = true ∧ u16 = true ∧ u17 = true ∧ u18 = true ∧ u19 = true ∧ u20 = true ∧ u21 = true ∧ u22 = true ∧ u23 = true ∧ u24 = true ∧ u25 = true := by
   have h2 := congrArg Array.toList hL
   simpa [List.replicate] using h2
  obtain ⟨rfl, rfl, rfl, rfl, rfl, rfl, rfl, rfl, rfl, rfl, rfl, rfl, rfl, rfl, rfl, rfl, rfl, rfl, rfl, rfl, rfl, rfl, rfl, rfl, rfl, rfl⟩ := hl;exact zu HQ   W kB
def ktN (k : Int) : Nat := if k = 1 then 240 else 241
def wkU (fs : List Ft) (f : Ft) : Wk := if f.kd = 3 then .row (ktN (ofF fs f).kd) (ftB (ofF fs f)) f.ct.toNat f.dx f.dy f.dz else .free (ktN f.kd) (ftB f)
theorem wkU_bx (fs : List Ft) (f : Ft) : (wkU fs f).bx = bxs fs f := by
 unfold wkU bxs
 split
 ·rfl
 ·rfl
theorem wkU_t (fs : List Ft) (f : Ft) : (wkU fs f).t = ktN (kdF fs f) := by
 unfold wkU kdF
 split
 ·rfl
 ·rfl
theorem unmoved1_any (g : Nat) (f : Ft) (w : World) (hf : f.kd = 1) : Calls Tryz.prog 152 #[.pointer (some ⟨g, 0, none⟩), ftv f] w fun e w' => e = .returned (.iface 240 (bxv (ftB f))) ∧ Below w.heap.size w w' := by
 obtain ⟨s, o, v, k, d, x0, y0, z0, x1, y1, z1, n, dx, dy, dz⟩ := f;simp only at hf;subst hf;unfold ftv ftB bxv;simp only;go_enter Tryz.func152, Tryz.ntmps152;go_wp2_with fail;go_ret;refine ⟨rfl, ?_⟩
 repeat (first | exact bfl _ _ | refine Below.setCell ?_ (Nat.le_refl _) _ | refine Below.setCell ?_ (by simp) _ | refine ba ?_ _)
theorem unmoved2_any (g : Nat) (f : Ft) (w : World) (hf : f.kd = 2) : Calls Tryz.prog 152 #[.pointer (some ⟨g, 0, none⟩), ftv f] w fun e w' => e = .returned (.iface 241 (bxv (ftB f))) ∧ Below w.heap.size w w' := by
 obtain ⟨s, o, v, k, d, x0, y0, z0, x1, y1, z1, n, dx, dy, dz⟩ := f;simp only at hf;subst hf;unfold ftv ftB bxv;simp only;go_enter Tryz.func152, Tryz.ntmps152;go_wp2_with fail;go_ret;refine ⟨rfl, ?_⟩
 repeat (first | exact bfl _ _ | refine Below.setCell ?_ (Nat.le_refl _) _ | refine Below.setCell ?_ (by simp) _ | refine ba ?_ _)
theorem unmoved3_any (g gw bm n cw cap j tt : Nat) (uv vc vd : Value) (fs : List Ft) (l : List Nat) (f : Ft) (w : World) (hf : f.kd = 3) (hs : f.ov.size ≤ maxLen) (hg : vb w g 84 [vc, vd, .slice (some ⟨gw, 0, none⟩) n cw, .map (some bm)]) (hm : MpN w bm cap fs l)
  (hj : byOf fs l f.ov = j + 1) (hjn : j < n) (hjl : n ≤ 100000) (hc : w.cell? ⟨gw, j, none⟩ = some (.iface tt uv)) (hgw : gw < w.heap.size) :
  Calls Tryz.prog 152 #[.pointer (some ⟨g, 0, none⟩), ftv f] w fun e w' => e = .returned (.iface 243 (.agg #[.iface tt uv, .int .i64 f.ct, .int .i64 f.dx, .int .i64 f.dy, .int .i64 f.dz])) ∧ Below w.heap.size w w' := by
 obtain ⟨s, o, v, k, d, x0, y0, z0, x1, y1, z1, ct, dx, dy, dz⟩ := f;simp only at hf hj hs ⊢;subst hf;have HLK := hide (fun X (h : Below w.heap.size w X) => (hm.bel h).look v hs);rw [hj] at HLK;have HG := hide (fun X (h : Below w.heap.size w X) => hg.bel h);have HC := hide (fun X (h : Below w.heap.size w X) => keep1 h hc);have HJ := hide hjn;have HW := hide (show IntKind.i64.wrap (((j + 1 : Nat) : Int) - 1) = (j : Int) by rw [wrap_i (by omega) (by omega)]; omega);clear hg hm hj hc hjn;unfold ftv;simp only;go_enter Tryz.func152, Tryz.ntmps152
 go_upto_region 6 with fail
 have hbA := ba (bfl w.heap.size w) (.cells #[.string s, .string o, .string v, .int .i64 3, .int .i64 d, .int .i64 x0, .int .i64 y0, .int .i64 z0, .int .i64 x1, .int .i64 y1, .int .i64 z1, .int .i64 ct, .int .i64 dx, .int .i64 dy, .int .i64 dz] 75);have HBA := hide hbA;have hv := vb_new w 75 [.string s, .string o, .string v, .int .i64 3, .int .i64 d, .int .i64 x0, .int .i64 y0, .int .i64 z0, .int .i64 x1, .int .i64 y1, .int .i64 z1, .int .i64 ct, .int .i64 dx, .int .i64 dy, .int .i64 dz] w.heap.size rfl
 refine Go.Code.wp_mono (Only.to (fun _ _ h => h)) (um6 (nb := j + 1) (j := j) (n := n) (hide fun X hX => zu HLK X (bc (zu HBA) hX)) (hide ((zu HG _ hbA).cell (m := 2) rfl)) (hide ((zu HG _ hbA).cell (m := 3) rfl)) (hide (hv.cell (m := 2) rfl)) (hide (hv.cell (m := 11) rfl)) (hide (hv.cell (m := 12) rfl)) (hide (hv.cell (m := 13) rfl)) (hide (hv.cell (m := 14) rfl)) (hide (zu HC _ hbA)) HW HJ ?_);intro W1 hb1;have HB1 := hide (bc (zu HBA) hb1);clear hb1 hbA hv;go_wp2_with fail;go_ret;exact ⟨rfl, zu HB1⟩
end Go.Proofs.YtkiplmabjeadgaaGreat
