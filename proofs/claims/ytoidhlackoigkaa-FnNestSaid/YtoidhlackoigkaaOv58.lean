/-
  The statement of over that draws its order, walked alone in each of its four ways.
-/
import Derived.Test.YtoidhlackoigkaaNsLv
import Derived.Test.YtoidhlackoigkaaVb
namespace Go.Proofs.Ytoidhlackoigkaa
open Go.ChangeShapes Go.WideShapes Go.ChangeAt Go.RowKit
set_option linter.unusedVariables false
set_option linter.unusedSimpArgs false

noncomputable def rg58 (id : Nat) : Go.Code := match Try.f58.body with | some c => (regOfZ id c).getD .skip | none => .skip
set_option maxHeartbeats 4000000 in
set_option maxRecDepth 100000 in
theorem ov_a {s0 s1 s4 s5 s6 s7 s8 s9 s10 s11 s12 s13 s14 s15 s16 s17 s18 s19 s20 s21 s22 s23 s24 s25 s26 s27 s28 s29 s30 s31 s32 s33 s34 : Value} {g hh : Nat} {ma xa ya wa ha mb xb yb wb hb R P Q S : Int} {ta tb : Bool} {V : World} {K_ : Act → World → Prop} (h1 : ¬ xa < R)
    (HG0 : Hid (V.cell? ⟨g, 0, none⟩ = some (.int .i64 (ma)))) (HG1 : Hid (V.cell? ⟨g, 1, none⟩ = some (.int .i64 (xa)))) (HG2 : Hid (V.cell? ⟨g, 2, none⟩ = some (.int .i64 (ya)))) (HG3 : Hid (V.cell? ⟨g, 3, none⟩ = some (.bool (ta)))) (HG4 : Hid (V.cell? ⟨g, 4, none⟩ = some (.int .i64 (wa)))) (HG5 : Hid (V.cell? ⟨g, 5, none⟩ = some (.int .i64 (ha)))) (HH0 : Hid (V.cell? ⟨hh, 0, none⟩ = some (.int .i64 (mb)))) (HH1 : Hid (V.cell? ⟨hh, 1, none⟩ = some (.int .i64 (xb)))) (HH2 : Hid (V.cell? ⟨hh, 2, none⟩ = some (.int .i64 (yb)))) (HH3 : Hid (V.cell? ⟨hh, 3, none⟩ = some (.bool (tb)))) (HH4 : Hid (V.cell? ⟨hh, 4, none⟩ = some (.int .i64 (wb)))) (HH5 : Hid (V.cell? ⟨hh, 5, none⟩ = some (.int .i64 (hb)))) 
    (HF4 : Hid (∀ Xw, Below V.heap.size V Xw → Calls Try.prog 43 #[.agg #[.int .i64 (mb), .int .i64 (xb), .int .i64 (yb), .bool (tb), .int .i64 (wb), .int .i64 (hb)]] Xw fun e w' => e = .returned (.int .i64 (R)) ∧ Below Xw.heap.size Xw w'))
    (hQ : ∀ (W1 : World), Below V.heap.size V W1 → K_ { tmps := #[s0, s1, .pointer (some ⟨g, 0, none⟩), .pointer (some ⟨hh, 0, none⟩), .bool (false), .pointer (some ⟨g, 0, none⟩), .pointer (some ⟨g, 1, none⟩), .int .i64 (xa), .agg #[.int .i64 (mb), .int .i64 (xb), .int .i64 (yb), .bool (tb), .int .i64 (wb), .int .i64 (hb)], .int .i64 (R), .bool (false), .bool (false), undef, undef, undef, undef, undef, undef, .bool (false), .bool (false), undef, undef, undef, undef, undef, undef, .bool (false), .bool (false), undef, undef, undef, undef, undef, undef, .bool (false)], defers := [] } W1) :
    Go.Code.wp Try.prog (rg58 1) (Only K_) { tmps := #[s0, s1, .pointer (some ⟨g, 0, none⟩), .pointer (some ⟨hh, 0, none⟩), s4, s5, s6, s7, s8, s9, s10, s11, s12, s13, s14, s15, s16, s17, s18, s19, s20, s21, s22, s23, s24, s25, s26, s27, s28, s29, s30, s31, s32, s33, s34], defers := [] } V := by
  have HQ := hide hQ
  clear hQ
  have tm1 : decide (xa < R) = false := decide_eq_false h1
  conv => arg 2; whnf
  refine wp_region_inv2 (fun Lb A W => ∃ (u0 u1 u2 u3 u4 u5 u6 u7 u8 u9 u10 u11 u12 u13 u14 u15 u16 u17 u18 u19 u20 u21 u22 u23 u24 u25 u26 u27 u28 u29 u30 : Bool) (dm : Nat), Lb = #[u0, u1, u2, u3, u4, u5, u6, u7, u8, u9, u10, u11, u12, u13, u14, u15, u16, u17, u18, u19, u20, u21, u22, u23, u24, u25, u26, u27, u28, u29, u30] ∧ A = ({ tmps := #[s0, s1, .pointer (some ⟨g, 0, none⟩), .pointer (some ⟨hh, 0, none⟩), (bif u30 then .bool (false) else s4), (bif u0 then .pointer (some ⟨g, 0, none⟩) else s5), (bif u1 then .pointer (some ⟨g, 1, none⟩) else s6), (bif u2 then .int .i64 (xa) else s7), (bif u3 then .agg #[.int .i64 (mb), .int .i64 (xb), .int .i64 (yb), .bool (tb), .int .i64 (wb), .int .i64 (hb)] else s8), (bif u4 then .int .i64 (R) else s9), (bif u5 then .bool (false) else s10), (bif u6 then .bool (false) else s11), (bif u7 then undef else s12), (bif u8 then undef else s13), (bif u9 then undef else s14), (bif u10 then undef else s15), (bif u11 then undef else s16), (bif u12 then undef else s17), (bif u13 then .bool (false) else s18), (bif u14 then .bool (false) else s19), (bif u15 then undef else s20), (bif u16 then undef else s21), (bif u17 then undef else s22), (bif u18 then undef else s23), (bif u19 then undef else s24), (bif u20 then undef else s25), (bif u21 then .bool (false) else s26), (bif u22 then .bool (false) else s27), (bif u23 then undef else s28), (bif u24 then undef else s29), (bif u25 then undef else s30), (bif u26 then undef else s31), (bif u27 then undef else s32), (bif u28 then undef else s33), (bif u29 then .bool (false) else s34)], defers := [] } : Act) ∧ Below V.heap.size V W ∧ (u30 = true → u0 = true ∧ u1 = true ∧ u2 = true ∧ u3 = true ∧ u4 = true ∧ u5 = true ∧ u6 = true ∧ u7 = true ∧ u8 = true ∧ u9 = true ∧ u10 = true ∧ u11 = true ∧ u12 = true ∧ u13 = true ∧ u14 = true ∧ u15 = true ∧ u16 = true ∧ u17 = true ∧ u18 = true ∧ u19 = true ∧ u20 = true ∧ u21 = true ∧ u22 = true ∧ u23 = true ∧ u24 = true ∧ u25 = true ∧ u26 = true ∧ u27 = true ∧ u28 = true ∧ u29 = true)) (by kernel_rfl) (by kernel_rfl) ?h0 ?hstep ?hend
  case h0 =>
    exact ⟨false, false, false, false, false, false, false, false, false, false, false, false, false, false, false, false, false, false, false, false, false, false, false, false, false, false, false, false, false, false, false, 0, rfl, rfl, Below.drew (Below.refl _ _), zf⟩
  case hstep =>
    intro Lb A W hI
    obtain ⟨u0, u1, u2, u3, u4, hI⟩ := hI
    obtain ⟨u5, u6, u7, u8, u9, hI⟩ := hI
    obtain ⟨u10, u11, u12, u13, u14, hI⟩ := hI
    obtain ⟨u15, u16, u17, u18, u19, hI⟩ := hI
    obtain ⟨u20, u21, u22, u23, u24, hI⟩ := hI
    obtain ⟨u25, u26, u27, u28, u29, hI⟩ := hI
    obtain ⟨u30, dm, hI⟩ := hI
    obtain ⟨hLb, hI⟩ := hI
    obtain ⟨hA, hI⟩ := hI
    obtain ⟨kB, hI⟩ := hI
    have kF := hI
    clear hI
    subst hLb
    subst hA
    replace kB := hide kB
    replace kF := hide kF
    refine ⟨?_, ?_, ?_, ?_, ?_, ?_, ?_, ?_, ?_, ?_, ?_, ?_, ?_, ?_, ?_, ?_, ?_, ?_, ?_, ?_, ?_, ?_, ?_, ?_, ?_, ?_, ?_, ?_, ?_, ?_, ?_, trivial⟩
    · intro h0 hd K hK
      have z : u0 = false := h0
      have z30_ : u30 = false := znb fun hu => z.symm.trans ((zu kF hu).1)
      subst z30_
      subst z
      clear h0 hd
      rw [if_pos (by rfl)]
      go_simp
      exact unhide hK _ _ ⟨true, u1, u2, u3, u4, u5, u6, u7, u8, u9, u10, u11, u12, u13, u14, u15, u16, u17, u18, u19, u20, u21, u22, u23, u24, u25, u26, u27, u28, u29, false, dm, rfl, rfl, zu kB, zf⟩
    · intro h0 hd K hK
      have z : u1 = false := h0
      have z30_ : u30 = false := znb fun hu => z.symm.trans ((zu kF hu).2.1)
      have zd : u0 = true := by
        simp [Region.binds] at hd
        simp [hd]
      obtain ⟨rfl⟩ := zd
      subst z30_
      subst z
      clear h0 hd
      rw [if_pos (by rfl)]
      go_simp
      exact unhide hK _ _ ⟨true, true, u2, u3, u4, u5, u6, u7, u8, u9, u10, u11, u12, u13, u14, u15, u16, u17, u18, u19, u20, u21, u22, u23, u24, u25, u26, u27, u28, u29, false, dm, rfl, rfl, zu kB, zf⟩
    · intro h0 hd K hK
      have z : u2 = false := h0
      have z30_ : u30 = false := znb fun hu => z.symm.trans ((zu kF hu).2.2.1)
      have zd : u1 = true := by
        simp [Region.binds] at hd
        simp [hd]
      obtain ⟨rfl⟩ := zd
      subst z30_
      subst z
      clear h0 hd
      rw [if_pos (by rfl)]
      have c0 := keep1 (zu kB) (unhide HG1)
      go_simp
      exact unhide hK _ _ ⟨u0, true, true, u3, u4, u5, u6, u7, u8, u9, u10, u11, u12, u13, u14, u15, u16, u17, u18, u19, u20, u21, u22, u23, u24, u25, u26, u27, u28, u29, false, dm, rfl, rfl, zu kB, zf⟩
    · intro h0 hd K hK
      have z : u3 = false := h0
      have z30_ : u30 = false := znb fun hu => z.symm.trans ((zu kF hu).2.2.2.1)
      subst z30_
      subst z
      clear h0 hd
      rw [if_pos (by rfl)]
      have c0 := keep1 (zu kB) (unhide HH0)
      have c1 := keep1 (zu kB) (unhide HH1)
      have c2 := keep1 (zu kB) (unhide HH2)
      have c3 := keep1 (zu kB) (unhide HH3)
      have c4 := keep1 (zu kB) (unhide HH4)
      have c5 := keep1 (zu kB) (unhide HH5)
      go_simp
      exact unhide hK _ _ ⟨u0, u1, u2, true, u4, u5, u6, u7, u8, u9, u10, u11, u12, u13, u14, u15, u16, u17, u18, u19, u20, u21, u22, u23, u24, u25, u26, u27, u28, u29, false, dm, rfl, rfl, zu kB, zf⟩
    · intro h0 hd K hK
      have z : u4 = false := h0
      have z30_ : u30 = false := znb fun hu => z.symm.trans ((zu kF hu).2.2.2.2.1)
      have zd : u3 = true := by
        simp [Region.binds] at hd
        simp [hd]
      obtain ⟨rfl⟩ := zd
      subst z30_
      subst z
      clear h0 hd
      rw [if_pos (by rfl)]
      go_simp
      refine (unhide HF4 W (zu kB)).mono ?_
      rintro e w8 ⟨rfl, hb8⟩
      exact unhide hK _ _ ⟨u0, u1, u2, true, true, u5, u6, u7, u8, u9, u10, u11, u12, u13, u14, u15, u16, u17, u18, u19, u20, u21, u22, u23, u24, u25, u26, u27, u28, u29, false, dm, rfl, rfl, bc (zu kB) hb8, zf⟩
    · intro h0 hd K hK
      have z : u5 = false := h0
      have z30_ : u30 = false := znb fun hu => z.symm.trans ((zu kF hu).2.2.2.2.2.1)
      have zd : u2 = true ∧ u4 = true := by
        simp [Region.binds] at hd
        simp [hd]
      obtain ⟨rfl, rfl⟩ := zd
      subst z30_
      subst z
      clear h0 hd
      rw [if_pos (by rfl)]
      go_simp
      exact unhide hK _ _ ⟨u0, u1, true, u3, true, true, u6, u7, u8, u9, u10, u11, u12, u13, u14, u15, u16, u17, u18, u19, u20, u21, u22, u23, u24, u25, u26, u27, u28, u29, false, dm, rfl, rfl, zu kB, zf⟩
    · intro h0 hd K hK
      have z : u6 = false := h0
      have z30_ : u30 = false := znb fun hu => z.symm.trans ((zu kF hu).2.2.2.2.2.2.1)
      have zd : u5 = true := by
        simp [Region.binds] at hd
        simp [hd]
      obtain ⟨rfl⟩ := zd
      subst z30_
      subst z
      clear h0 hd
      rw [if_pos (by rfl)]
      go_simp
      exact unhide hK _ _ ⟨u0, u1, u2, u3, u4, true, true, u7, u8, u9, u10, u11, u12, u13, u14, u15, u16, u17, u18, u19, u20, u21, u22, u23, u24, u25, u26, u27, u28, u29, false, dm, rfl, rfl, zu kB, zf⟩
    · intro h0 hd K hK
      have z : u7 = false := h0
      have z30_ : u30 = false := znb fun hu => z.symm.trans ((zu kF hu).2.2.2.2.2.2.2.1)
      have zd : u6 = true := by
        simp [Region.binds] at hd
        simp [hd]
      obtain ⟨rfl⟩ := zd
      subst z30_
      subst z
      clear h0 hd
      rw [if_neg (Bool.eq_false_iff.1 (by rfl))]
      try go_simp
      exact unhide hK _ _ ⟨u0, u1, u2, u3, u4, u5, true, true, u8, u9, u10, u11, u12, u13, u14, u15, u16, u17, u18, u19, u20, u21, u22, u23, u24, u25, u26, u27, u28, u29, false, dm, rfl, rfl, zu kB, zf⟩
    · intro h0 hd K hK
      have z : u8 = false := h0
      have z30_ : u30 = false := znb fun hu => z.symm.trans ((zu kF hu).2.2.2.2.2.2.2.2.1)
      have zd : u7 = true ∧ u6 = true := by
        simp [Region.binds] at hd
        simp [hd]
      obtain ⟨rfl, rfl⟩ := zd
      subst z30_
      subst z
      clear h0 hd
      rw [if_neg (Bool.eq_false_iff.1 (by rfl))]
      try go_simp
      exact unhide hK _ _ ⟨u0, u1, u2, u3, u4, u5, true, true, true, u9, u10, u11, u12, u13, u14, u15, u16, u17, u18, u19, u20, u21, u22, u23, u24, u25, u26, u27, u28, u29, false, dm, rfl, rfl, zu kB, zf⟩
    · intro h0 hd K hK
      have z : u9 = false := h0
      have z30_ : u30 = false := znb fun hu => z.symm.trans ((zu kF hu).2.2.2.2.2.2.2.2.2.1)
      have zd : u8 = true ∧ u6 = true := by
        simp [Region.binds] at hd
        simp [hd]
      obtain ⟨rfl, rfl⟩ := zd
      subst z30_
      subst z
      clear h0 hd
      rw [if_neg (Bool.eq_false_iff.1 (by rfl))]
      try go_simp
      exact unhide hK _ _ ⟨u0, u1, u2, u3, u4, u5, true, u7, true, true, u10, u11, u12, u13, u14, u15, u16, u17, u18, u19, u20, u21, u22, u23, u24, u25, u26, u27, u28, u29, false, dm, rfl, rfl, zu kB, zf⟩
    · intro h0 hd K hK
      have z : u10 = false := h0
      have z30_ : u30 = false := znb fun hu => z.symm.trans ((zu kF hu).2.2.2.2.2.2.2.2.2.2.1)
      have zd : u6 = true := by
        simp [Region.binds] at hd
        simp [hd]
      obtain ⟨rfl⟩ := zd
      subst z30_
      subst z
      clear h0 hd
      rw [if_neg (Bool.eq_false_iff.1 (by rfl))]
      try go_simp
      exact unhide hK _ _ ⟨u0, u1, u2, u3, u4, u5, true, u7, u8, u9, true, u11, u12, u13, u14, u15, u16, u17, u18, u19, u20, u21, u22, u23, u24, u25, u26, u27, u28, u29, false, dm, rfl, rfl, zu kB, zf⟩
    · intro h0 hd K hK
      have z : u11 = false := h0
      have z30_ : u30 = false := znb fun hu => z.symm.trans ((zu kF hu).2.2.2.2.2.2.2.2.2.2.2.1)
      have zd : u10 = true ∧ u6 = true := by
        simp [Region.binds] at hd
        simp [hd]
      obtain ⟨rfl, rfl⟩ := zd
      subst z30_
      subst z
      clear h0 hd
      rw [if_neg (Bool.eq_false_iff.1 (by rfl))]
      try go_simp
      exact unhide hK _ _ ⟨u0, u1, u2, u3, u4, u5, true, u7, u8, u9, true, true, u12, u13, u14, u15, u16, u17, u18, u19, u20, u21, u22, u23, u24, u25, u26, u27, u28, u29, false, dm, rfl, rfl, zu kB, zf⟩
    · intro h0 hd K hK
      have z : u12 = false := h0
      have z30_ : u30 = false := znb fun hu => z.symm.trans ((zu kF hu).2.2.2.2.2.2.2.2.2.2.2.2.1)
      have zd : u9 = true ∧ u11 = true ∧ u6 = true := by
        simp [Region.binds] at hd
        simp [hd]
      obtain ⟨rfl, rfl, rfl⟩ := zd
      subst z30_
      subst z
      clear h0 hd
      rw [if_neg (Bool.eq_false_iff.1 (by rfl))]
      try go_simp
      exact unhide hK _ _ ⟨u0, u1, u2, u3, u4, u5, true, u7, u8, true, u10, true, true, u13, u14, u15, u16, u17, u18, u19, u20, u21, u22, u23, u24, u25, u26, u27, u28, u29, false, dm, rfl, rfl, zu kB, zf⟩
    · intro h0 hd K hK
      have z : u13 = false := h0
      have z30_ : u30 = false := znb fun hu => z.symm.trans ((zu kF hu).2.2.2.2.2.2.2.2.2.2.2.2.2.1)
      have zd : u6 = true ∧ u12 = true := by
        simp [Region.binds] at hd
        simp [hd]
      obtain ⟨rfl, rfl⟩ := zd
      subst z30_
      subst z
      clear h0 hd
      rw [if_pos (by rfl)]
      go_simp
      exact unhide hK _ _ ⟨u0, u1, u2, u3, u4, u5, true, u7, u8, u9, u10, u11, true, true, u14, u15, u16, u17, u18, u19, u20, u21, u22, u23, u24, u25, u26, u27, u28, u29, false, dm, rfl, rfl, zu kB, zf⟩
    · intro h0 hd K hK
      have z : u14 = false := h0
      have z30_ : u30 = false := znb fun hu => z.symm.trans ((zu kF hu).2.2.2.2.2.2.2.2.2.2.2.2.2.2.1)
      have zd : u13 = true := by
        simp [Region.binds] at hd
        simp [hd]
      obtain ⟨rfl⟩ := zd
      subst z30_
      subst z
      clear h0 hd
      rw [if_pos (by rfl)]
      go_simp
      exact unhide hK _ _ ⟨u0, u1, u2, u3, u4, u5, u6, u7, u8, u9, u10, u11, u12, true, true, u15, u16, u17, u18, u19, u20, u21, u22, u23, u24, u25, u26, u27, u28, u29, false, dm, rfl, rfl, zu kB, zf⟩
    · intro h0 hd K hK
      have z : u15 = false := h0
      have z30_ : u30 = false := znb fun hu => z.symm.trans ((zu kF hu).2.2.2.2.2.2.2.2.2.2.2.2.2.2.2.1)
      have zd : u14 = true := by
        simp [Region.binds] at hd
        simp [hd]
      obtain ⟨rfl⟩ := zd
      subst z30_
      subst z
      clear h0 hd
      rw [if_neg (Bool.eq_false_iff.1 (by rfl))]
      try go_simp
      exact unhide hK _ _ ⟨u0, u1, u2, u3, u4, u5, u6, u7, u8, u9, u10, u11, u12, u13, true, true, u16, u17, u18, u19, u20, u21, u22, u23, u24, u25, u26, u27, u28, u29, false, dm, rfl, rfl, zu kB, zf⟩
    · intro h0 hd K hK
      have z : u16 = false := h0
      have z30_ : u30 = false := znb fun hu => z.symm.trans ((zu kF hu).2.2.2.2.2.2.2.2.2.2.2.2.2.2.2.2.1)
      have zd : u15 = true ∧ u14 = true := by
        simp [Region.binds] at hd
        simp [hd]
      obtain ⟨rfl, rfl⟩ := zd
      subst z30_
      subst z
      clear h0 hd
      rw [if_neg (Bool.eq_false_iff.1 (by rfl))]
      try go_simp
      exact unhide hK _ _ ⟨u0, u1, u2, u3, u4, u5, u6, u7, u8, u9, u10, u11, u12, u13, true, true, true, u17, u18, u19, u20, u21, u22, u23, u24, u25, u26, u27, u28, u29, false, dm, rfl, rfl, zu kB, zf⟩
    · intro h0 hd K hK
      have z : u17 = false := h0
      have z30_ : u30 = false := znb fun hu => z.symm.trans ((zu kF hu).2.2.2.2.2.2.2.2.2.2.2.2.2.2.2.2.2.1)
      have zd : u16 = true ∧ u14 = true := by
        simp [Region.binds] at hd
        simp [hd]
      obtain ⟨rfl, rfl⟩ := zd
      subst z30_
      subst z
      clear h0 hd
      rw [if_neg (Bool.eq_false_iff.1 (by rfl))]
      try go_simp
      exact unhide hK _ _ ⟨u0, u1, u2, u3, u4, u5, u6, u7, u8, u9, u10, u11, u12, u13, true, u15, true, true, u18, u19, u20, u21, u22, u23, u24, u25, u26, u27, u28, u29, false, dm, rfl, rfl, zu kB, zf⟩
    · intro h0 hd K hK
      have z : u18 = false := h0
      have z30_ : u30 = false := znb fun hu => z.symm.trans ((zu kF hu).2.2.2.2.2.2.2.2.2.2.2.2.2.2.2.2.2.2.1)
      have zd : u14 = true := by
        simp [Region.binds] at hd
        simp [hd]
      obtain ⟨rfl⟩ := zd
      subst z30_
      subst z
      clear h0 hd
      rw [if_neg (Bool.eq_false_iff.1 (by rfl))]
      try go_simp
      exact unhide hK _ _ ⟨u0, u1, u2, u3, u4, u5, u6, u7, u8, u9, u10, u11, u12, u13, true, u15, u16, u17, true, u19, u20, u21, u22, u23, u24, u25, u26, u27, u28, u29, false, dm, rfl, rfl, zu kB, zf⟩
    · intro h0 hd K hK
      have z : u19 = false := h0
      have z30_ : u30 = false := znb fun hu => z.symm.trans ((zu kF hu).2.2.2.2.2.2.2.2.2.2.2.2.2.2.2.2.2.2.2.1)
      have zd : u18 = true ∧ u14 = true := by
        simp [Region.binds] at hd
        simp [hd]
      obtain ⟨rfl, rfl⟩ := zd
      subst z30_
      subst z
      clear h0 hd
      rw [if_neg (Bool.eq_false_iff.1 (by rfl))]
      try go_simp
      exact unhide hK _ _ ⟨u0, u1, u2, u3, u4, u5, u6, u7, u8, u9, u10, u11, u12, u13, true, u15, u16, u17, true, true, u20, u21, u22, u23, u24, u25, u26, u27, u28, u29, false, dm, rfl, rfl, zu kB, zf⟩
    · intro h0 hd K hK
      have z : u20 = false := h0
      have z30_ : u30 = false := znb fun hu => z.symm.trans ((zu kF hu).2.2.2.2.2.2.2.2.2.2.2.2.2.2.2.2.2.2.2.2.1)
      have zd : u17 = true ∧ u19 = true ∧ u14 = true := by
        simp [Region.binds] at hd
        simp [hd]
      obtain ⟨rfl, rfl, rfl⟩ := zd
      subst z30_
      subst z
      clear h0 hd
      rw [if_neg (Bool.eq_false_iff.1 (by rfl))]
      try go_simp
      exact unhide hK _ _ ⟨u0, u1, u2, u3, u4, u5, u6, u7, u8, u9, u10, u11, u12, u13, true, u15, u16, true, u18, true, true, u21, u22, u23, u24, u25, u26, u27, u28, u29, false, dm, rfl, rfl, zu kB, zf⟩
    · intro h0 hd K hK
      have z : u21 = false := h0
      have z30_ : u30 = false := znb fun hu => z.symm.trans ((zu kF hu).2.2.2.2.2.2.2.2.2.2.2.2.2.2.2.2.2.2.2.2.2.1)
      have zd : u14 = true ∧ u20 = true := by
        simp [Region.binds] at hd
        simp [hd]
      obtain ⟨rfl, rfl⟩ := zd
      subst z30_
      subst z
      clear h0 hd
      rw [if_pos (by rfl)]
      go_simp
      exact unhide hK _ _ ⟨u0, u1, u2, u3, u4, u5, u6, u7, u8, u9, u10, u11, u12, u13, true, u15, u16, u17, u18, u19, true, true, u22, u23, u24, u25, u26, u27, u28, u29, false, dm, rfl, rfl, zu kB, zf⟩
    · intro h0 hd K hK
      have z : u22 = false := h0
      have z30_ : u30 = false := znb fun hu => z.symm.trans ((zu kF hu).2.2.2.2.2.2.2.2.2.2.2.2.2.2.2.2.2.2.2.2.2.2.1)
      have zd : u21 = true := by
        simp [Region.binds] at hd
        simp [hd]
      obtain ⟨rfl⟩ := zd
      subst z30_
      subst z
      clear h0 hd
      rw [if_pos (by rfl)]
      go_simp
      exact unhide hK _ _ ⟨u0, u1, u2, u3, u4, u5, u6, u7, u8, u9, u10, u11, u12, u13, u14, u15, u16, u17, u18, u19, u20, true, true, u23, u24, u25, u26, u27, u28, u29, false, dm, rfl, rfl, zu kB, zf⟩
    · intro h0 hd K hK
      have z : u23 = false := h0
      have z30_ : u30 = false := znb fun hu => z.symm.trans ((zu kF hu).2.2.2.2.2.2.2.2.2.2.2.2.2.2.2.2.2.2.2.2.2.2.2.1)
      have zd : u22 = true := by
        simp [Region.binds] at hd
        simp [hd]
      obtain ⟨rfl⟩ := zd
      subst z30_
      subst z
      clear h0 hd
      rw [if_neg (Bool.eq_false_iff.1 (by rfl))]
      try go_simp
      exact unhide hK _ _ ⟨u0, u1, u2, u3, u4, u5, u6, u7, u8, u9, u10, u11, u12, u13, u14, u15, u16, u17, u18, u19, u20, u21, true, true, u24, u25, u26, u27, u28, u29, false, dm, rfl, rfl, zu kB, zf⟩
    · intro h0 hd K hK
      have z : u24 = false := h0
      have z30_ : u30 = false := znb fun hu => z.symm.trans ((zu kF hu).2.2.2.2.2.2.2.2.2.2.2.2.2.2.2.2.2.2.2.2.2.2.2.2.1)
      have zd : u23 = true ∧ u22 = true := by
        simp [Region.binds] at hd
        simp [hd]
      obtain ⟨rfl, rfl⟩ := zd
      subst z30_
      subst z
      clear h0 hd
      rw [if_neg (Bool.eq_false_iff.1 (by rfl))]
      try go_simp
      exact unhide hK _ _ ⟨u0, u1, u2, u3, u4, u5, u6, u7, u8, u9, u10, u11, u12, u13, u14, u15, u16, u17, u18, u19, u20, u21, true, true, true, u25, u26, u27, u28, u29, false, dm, rfl, rfl, zu kB, zf⟩
    · intro h0 hd K hK
      have z : u25 = false := h0
      have z30_ : u30 = false := znb fun hu => z.symm.trans ((zu kF hu).2.2.2.2.2.2.2.2.2.2.2.2.2.2.2.2.2.2.2.2.2.2.2.2.2.1)
      have zd : u24 = true ∧ u22 = true := by
        simp [Region.binds] at hd
        simp [hd]
      obtain ⟨rfl, rfl⟩ := zd
      subst z30_
      subst z
      clear h0 hd
      rw [if_neg (Bool.eq_false_iff.1 (by rfl))]
      try go_simp
      exact unhide hK _ _ ⟨u0, u1, u2, u3, u4, u5, u6, u7, u8, u9, u10, u11, u12, u13, u14, u15, u16, u17, u18, u19, u20, u21, true, u23, true, true, u26, u27, u28, u29, false, dm, rfl, rfl, zu kB, zf⟩
    · intro h0 hd K hK
      have z : u26 = false := h0
      have z30_ : u30 = false := znb fun hu => z.symm.trans ((zu kF hu).2.2.2.2.2.2.2.2.2.2.2.2.2.2.2.2.2.2.2.2.2.2.2.2.2.2.1)
      have zd : u22 = true := by
        simp [Region.binds] at hd
        simp [hd]
      obtain ⟨rfl⟩ := zd
      subst z30_
      subst z
      clear h0 hd
      rw [if_neg (Bool.eq_false_iff.1 (by rfl))]
      try go_simp
      exact unhide hK _ _ ⟨u0, u1, u2, u3, u4, u5, u6, u7, u8, u9, u10, u11, u12, u13, u14, u15, u16, u17, u18, u19, u20, u21, true, u23, u24, u25, true, u27, u28, u29, false, dm, rfl, rfl, zu kB, zf⟩
    · intro h0 hd K hK
      have z : u27 = false := h0
      have z30_ : u30 = false := znb fun hu => z.symm.trans ((zu kF hu).2.2.2.2.2.2.2.2.2.2.2.2.2.2.2.2.2.2.2.2.2.2.2.2.2.2.2.1)
      have zd : u26 = true ∧ u22 = true := by
        simp [Region.binds] at hd
        simp [hd]
      obtain ⟨rfl, rfl⟩ := zd
      subst z30_
      subst z
      clear h0 hd
      rw [if_neg (Bool.eq_false_iff.1 (by rfl))]
      try go_simp
      exact unhide hK _ _ ⟨u0, u1, u2, u3, u4, u5, u6, u7, u8, u9, u10, u11, u12, u13, u14, u15, u16, u17, u18, u19, u20, u21, true, u23, u24, u25, true, true, u28, u29, false, dm, rfl, rfl, zu kB, zf⟩
    · intro h0 hd K hK
      have z : u28 = false := h0
      have z30_ : u30 = false := znb fun hu => z.symm.trans ((zu kF hu).2.2.2.2.2.2.2.2.2.2.2.2.2.2.2.2.2.2.2.2.2.2.2.2.2.2.2.2.1)
      have zd : u25 = true ∧ u27 = true ∧ u22 = true := by
        simp [Region.binds] at hd
        simp [hd]
      obtain ⟨rfl, rfl, rfl⟩ := zd
      subst z30_
      subst z
      clear h0 hd
      rw [if_neg (Bool.eq_false_iff.1 (by rfl))]
      try go_simp
      exact unhide hK _ _ ⟨u0, u1, u2, u3, u4, u5, u6, u7, u8, u9, u10, u11, u12, u13, u14, u15, u16, u17, u18, u19, u20, u21, true, u23, u24, true, u26, true, true, u29, false, dm, rfl, rfl, zu kB, zf⟩
    · intro h0 hd K hK
      have z : u29 = false := h0
      have z30_ : u30 = false := znb fun hu => z.symm.trans ((zu kF hu).2.2.2.2.2.2.2.2.2.2.2.2.2.2.2.2.2.2.2.2.2.2.2.2.2.2.2.2.2)
      have zd : u22 = true ∧ u28 = true := by
        simp [Region.binds] at hd
        simp [hd]
      obtain ⟨rfl, rfl⟩ := zd
      subst z30_
      subst z
      clear h0 hd
      rw [if_pos (by rfl)]
      go_simp
      exact unhide hK _ _ ⟨u0, u1, u2, u3, u4, u5, u6, u7, u8, u9, u10, u11, u12, u13, u14, u15, u16, u17, u18, u19, u20, u21, true, u23, u24, u25, u26, u27, true, true, false, dm, rfl, rfl, zu kB, zf⟩
    · intro h0 hd K hK
      have z : u30 = false := h0
      have zd0 : u0 = true ∧ u1 = true ∧ u2 = true ∧ u3 = true ∧ u4 = true ∧ u5 = true ∧ u6 = true ∧ u7 = true ∧ u8 = true ∧ u9 = true ∧ u10 = true ∧ u11 = true ∧ u12 = true ∧ u13 = true ∧ u14 = true ∧ u15 = true ∧ u16 = true ∧ u17 = true ∧ u18 = true ∧ u19 = true ∧ u20 = true ∧ u21 = true ∧ u22 = true ∧ u23 = true ∧ u24 = true ∧ u25 = true ∧ u26 = true ∧ u27 = true ∧ u28 = true ∧ u29 = true := by
        simp [Region.binds] at hd
        simp [hd]
      have zd : u0 = true ∧ u1 = true ∧ u2 = true ∧ u3 = true ∧ u4 = true ∧ u5 = true ∧ u6 = true ∧ u7 = true ∧ u8 = true ∧ u9 = true ∧ u10 = true ∧ u11 = true ∧ u12 = true ∧ u13 = true ∧ u14 = true ∧ u15 = true ∧ u16 = true ∧ u17 = true ∧ u18 = true ∧ u19 = true ∧ u20 = true ∧ u21 = true ∧ u22 = true ∧ u23 = true ∧ u24 = true ∧ u25 = true ∧ u26 = true ∧ u27 = true ∧ u28 = true ∧ u29 = true := ⟨zd0.1, zd0.2.1, zd0.2.2.1, zd0.2.2.2.1, zd0.2.2.2.2.1, zd0.2.2.2.2.2.1, zd0.2.2.2.2.2.2.1, zd0.2.2.2.2.2.2.2.1, zd0.2.2.2.2.2.2.2.2.1, zd0.2.2.2.2.2.2.2.2.2.1, zd0.2.2.2.2.2.2.2.2.2.2.1, zd0.2.2.2.2.2.2.2.2.2.2.2.1, zd0.2.2.2.2.2.2.2.2.2.2.2.2.1, zd0.2.2.2.2.2.2.2.2.2.2.2.2.2.1, zd0.2.2.2.2.2.2.2.2.2.2.2.2.2.2.1, zd0.2.2.2.2.2.2.2.2.2.2.2.2.2.2.2.1, zd0.2.2.2.2.2.2.2.2.2.2.2.2.2.2.2.2.1, zd0.2.2.2.2.2.2.2.2.2.2.2.2.2.2.2.2.2.1, zd0.2.2.2.2.2.2.2.2.2.2.2.2.2.2.2.2.2.2.1, zd0.2.2.2.2.2.2.2.2.2.2.2.2.2.2.2.2.2.2.2.1, zd0.2.2.2.2.2.2.2.2.2.2.2.2.2.2.2.2.2.2.2.2.1, zd0.2.2.2.2.2.2.2.2.2.2.2.2.2.2.2.2.2.2.2.2.2.1, zd0.2.2.2.2.2.2.2.2.2.2.2.2.2.2.2.2.2.2.2.2.2.2.1, zd0.2.2.2.2.2.2.2.2.2.2.2.2.2.2.2.2.2.2.2.2.2.2.2.1, zd0.2.2.2.2.2.2.2.2.2.2.2.2.2.2.2.2.2.2.2.2.2.2.2.2.1, zd0.2.2.2.2.2.2.2.2.2.2.2.2.2.2.2.2.2.2.2.2.2.2.2.2.2.1, zd0.2.2.2.2.2.2.2.2.2.2.2.2.2.2.2.2.2.2.2.2.2.2.2.2.2.2.1, zd0.2.2.2.2.2.2.2.2.2.2.2.2.2.2.2.2.2.2.2.2.2.2.2.2.2.2.2.1, zd0.2.2.2.2.2.2.2.2.2.2.2.2.2.2.2.2.2.2.2.2.2.2.2.2.2.2.2.2.1, zd0.2.2.2.2.2.2.2.2.2.2.2.2.2.2.2.2.2.2.2.2.2.2.2.2.2.2.2.2.2⟩
      obtain ⟨rfl, rfl, rfl, rfl, rfl, rfl, rfl, rfl, rfl, rfl, rfl, rfl, rfl, rfl, rfl, rfl, rfl, rfl, rfl, rfl, rfl, rfl, rfl, rfl, rfl, rfl, rfl, rfl, rfl, rfl⟩ := zd
      subst z
      clear h0 hd
      rw [if_pos (by rfl)]
      go_simp
      exact unhide hK _ _ ⟨true, true, true, true, true, true, true, true, true, true, true, true, true, true, true, true, true, true, true, true, true, true, true, true, true, true, true, true, true, true, true, dm, rfl, rfl, zu kB, (fun _ => ⟨rfl, rfl, rfl, rfl, rfl, rfl, rfl, rfl, rfl, rfl, rfl, rfl, rfl, rfl, rfl, rfl, rfl, rfl, rfl, rfl, rfl, rfl, rfl, rfl, rfl, rfl, rfl, rfl, rfl, rfl⟩)⟩
  case hend =>
    intro Lb A W hI
    obtain ⟨u0, u1, u2, u3, u4, hI⟩ := hI
    obtain ⟨u5, u6, u7, u8, u9, hI⟩ := hI
    obtain ⟨u10, u11, u12, u13, u14, hI⟩ := hI
    obtain ⟨u15, u16, u17, u18, u19, hI⟩ := hI
    obtain ⟨u20, u21, u22, u23, u24, hI⟩ := hI
    obtain ⟨u25, u26, u27, u28, u29, hI⟩ := hI
    obtain ⟨u30, dm, hI⟩ := hI
    obtain ⟨hLb, hI⟩ := hI
    obtain ⟨hA, hI⟩ := hI
    obtain ⟨kB, hI⟩ := hI
    have kF := hI
    clear hI
    subst hLb
    subst hA
    intro hL
    have hl : u0 = true ∧ u1 = true ∧ u2 = true ∧ u3 = true ∧ u4 = true ∧ u5 = true ∧ u6 = true ∧ u7 = true ∧ u8 = true ∧ u9 = true ∧ u10 = true ∧ u11 = true ∧ u12 = true ∧ u13 = true ∧ u14 = true ∧ u15 = true ∧ u16 = true ∧ u17 = true ∧ u18 = true ∧ u19 = true ∧ u20 = true ∧ u21 = true ∧ u22 = true ∧ u23 = true ∧ u24 = true ∧ u25 = true ∧ u26 = true ∧ u27 = true ∧ u28 = true ∧ u29 = true ∧ u30 = true := by
      have h2 := congrArg Array.toList hL
      simpa [List.replicate] using h2
    obtain ⟨rfl, rfl, rfl, rfl, rfl, rfl, rfl, rfl, rfl, rfl, rfl, rfl, rfl, rfl, rfl, rfl, rfl, rfl, rfl, rfl, rfl, rfl, rfl, rfl, rfl, rfl, rfl, rfl, rfl, rfl, rfl⟩ := hl
    exact unhide HQ  W kB

set_option maxHeartbeats 4000000 in
set_option maxRecDepth 100000 in
theorem ov_b {s0 s1 s4 s5 s6 s7 s8 s9 s10 s11 s12 s13 s14 s15 s16 s17 s18 s19 s20 s21 s22 s23 s24 s25 s26 s27 s28 s29 s30 s31 s32 s33 s34 : Value} {g hh : Nat} {ma xa ya wa ha mb xb yb wb hb R P Q S : Int} {ta tb : Bool} {V : World} {K_ : Act → World → Prop} (h1 : xa < R) (h2 : ¬ xb < P)
    (HG0 : Hid (V.cell? ⟨g, 0, none⟩ = some (.int .i64 (ma)))) (HG1 : Hid (V.cell? ⟨g, 1, none⟩ = some (.int .i64 (xa)))) (HG2 : Hid (V.cell? ⟨g, 2, none⟩ = some (.int .i64 (ya)))) (HG3 : Hid (V.cell? ⟨g, 3, none⟩ = some (.bool (ta)))) (HG4 : Hid (V.cell? ⟨g, 4, none⟩ = some (.int .i64 (wa)))) (HG5 : Hid (V.cell? ⟨g, 5, none⟩ = some (.int .i64 (ha)))) (HH0 : Hid (V.cell? ⟨hh, 0, none⟩ = some (.int .i64 (mb)))) (HH1 : Hid (V.cell? ⟨hh, 1, none⟩ = some (.int .i64 (xb)))) (HH2 : Hid (V.cell? ⟨hh, 2, none⟩ = some (.int .i64 (yb)))) (HH3 : Hid (V.cell? ⟨hh, 3, none⟩ = some (.bool (tb)))) (HH4 : Hid (V.cell? ⟨hh, 4, none⟩ = some (.int .i64 (wb)))) (HH5 : Hid (V.cell? ⟨hh, 5, none⟩ = some (.int .i64 (hb)))) 
    (HF4 : Hid (∀ Xw, Below V.heap.size V Xw → Calls Try.prog 43 #[.agg #[.int .i64 (mb), .int .i64 (xb), .int .i64 (yb), .bool (tb), .int .i64 (wb), .int .i64 (hb)]] Xw fun e w' => e = .returned (.int .i64 (R)) ∧ Below Xw.heap.size Xw w'))
    (HF11 : Hid (∀ Xw, Below V.heap.size V Xw → Calls Try.prog 43 #[.agg #[.int .i64 (ma), .int .i64 (xa), .int .i64 (ya), .bool (ta), .int .i64 (wa), .int .i64 (ha)]] Xw fun e w' => e = .returned (.int .i64 (P)) ∧ Below Xw.heap.size Xw w'))
    (hQ : ∀ (W1 : World), Below V.heap.size V W1 → K_ { tmps := #[s0, s1, .pointer (some ⟨g, 0, none⟩), .pointer (some ⟨hh, 0, none⟩), .bool (false), .pointer (some ⟨g, 0, none⟩), .pointer (some ⟨g, 1, none⟩), .int .i64 (xa), .agg #[.int .i64 (mb), .int .i64 (xb), .int .i64 (yb), .bool (tb), .int .i64 (wb), .int .i64 (hb)], .int .i64 (R), .bool (true), .bool (true), .pointer (some ⟨hh, 0, none⟩), .pointer (some ⟨hh, 1, none⟩), .int .i64 (xb), .agg #[.int .i64 (ma), .int .i64 (xa), .int .i64 (ya), .bool (ta), .int .i64 (wa), .int .i64 (ha)], .int .i64 (P), .bool (false), .bool (false), .bool (false), undef, undef, undef, undef, undef, undef, .bool (false), .bool (false), undef, undef, undef, undef, undef, undef, .bool (false)], defers := [] } W1) :
    Go.Code.wp Try.prog (rg58 1) (Only K_) { tmps := #[s0, s1, .pointer (some ⟨g, 0, none⟩), .pointer (some ⟨hh, 0, none⟩), s4, s5, s6, s7, s8, s9, s10, s11, s12, s13, s14, s15, s16, s17, s18, s19, s20, s21, s22, s23, s24, s25, s26, s27, s28, s29, s30, s31, s32, s33, s34], defers := [] } V := by
  have HQ := hide hQ
  clear hQ
  have tm1 : decide (xa < R) = true := decide_eq_true h1
  have tm2 : decide (xb < P) = false := decide_eq_false h2
  conv => arg 2; whnf
  refine wp_region_inv2 (fun Lb A W => ∃ (u0 u1 u2 u3 u4 u5 u6 u7 u8 u9 u10 u11 u12 u13 u14 u15 u16 u17 u18 u19 u20 u21 u22 u23 u24 u25 u26 u27 u28 u29 u30 : Bool) (dm : Nat), Lb = #[u0, u1, u2, u3, u4, u5, u6, u7, u8, u9, u10, u11, u12, u13, u14, u15, u16, u17, u18, u19, u20, u21, u22, u23, u24, u25, u26, u27, u28, u29, u30] ∧ A = ({ tmps := #[s0, s1, .pointer (some ⟨g, 0, none⟩), .pointer (some ⟨hh, 0, none⟩), (bif u30 then .bool (false) else s4), (bif u0 then .pointer (some ⟨g, 0, none⟩) else s5), (bif u1 then .pointer (some ⟨g, 1, none⟩) else s6), (bif u2 then .int .i64 (xa) else s7), (bif u3 then .agg #[.int .i64 (mb), .int .i64 (xb), .int .i64 (yb), .bool (tb), .int .i64 (wb), .int .i64 (hb)] else s8), (bif u4 then .int .i64 (R) else s9), (bif u5 then .bool (true) else s10), (bif u6 then .bool (true) else s11), (bif u7 then .pointer (some ⟨hh, 0, none⟩) else s12), (bif u8 then .pointer (some ⟨hh, 1, none⟩) else s13), (bif u9 then .int .i64 (xb) else s14), (bif u10 then .agg #[.int .i64 (ma), .int .i64 (xa), .int .i64 (ya), .bool (ta), .int .i64 (wa), .int .i64 (ha)] else s15), (bif u11 then .int .i64 (P) else s16), (bif u12 then .bool (false) else s17), (bif u13 then .bool (false) else s18), (bif u14 then .bool (false) else s19), (bif u15 then undef else s20), (bif u16 then undef else s21), (bif u17 then undef else s22), (bif u18 then undef else s23), (bif u19 then undef else s24), (bif u20 then undef else s25), (bif u21 then .bool (false) else s26), (bif u22 then .bool (false) else s27), (bif u23 then undef else s28), (bif u24 then undef else s29), (bif u25 then undef else s30), (bif u26 then undef else s31), (bif u27 then undef else s32), (bif u28 then undef else s33), (bif u29 then .bool (false) else s34)], defers := [] } : Act) ∧ Below V.heap.size V W ∧ (u30 = true → u0 = true ∧ u1 = true ∧ u2 = true ∧ u3 = true ∧ u4 = true ∧ u5 = true ∧ u6 = true ∧ u7 = true ∧ u8 = true ∧ u9 = true ∧ u10 = true ∧ u11 = true ∧ u12 = true ∧ u13 = true ∧ u14 = true ∧ u15 = true ∧ u16 = true ∧ u17 = true ∧ u18 = true ∧ u19 = true ∧ u20 = true ∧ u21 = true ∧ u22 = true ∧ u23 = true ∧ u24 = true ∧ u25 = true ∧ u26 = true ∧ u27 = true ∧ u28 = true ∧ u29 = true)) (by kernel_rfl) (by kernel_rfl) ?h0 ?hstep ?hend
  case h0 =>
    exact ⟨false, false, false, false, false, false, false, false, false, false, false, false, false, false, false, false, false, false, false, false, false, false, false, false, false, false, false, false, false, false, false, 0, rfl, rfl, Below.drew (Below.refl _ _), zf⟩
  case hstep =>
    intro Lb A W hI
    obtain ⟨u0, u1, u2, u3, u4, hI⟩ := hI
    obtain ⟨u5, u6, u7, u8, u9, hI⟩ := hI
    obtain ⟨u10, u11, u12, u13, u14, hI⟩ := hI
    obtain ⟨u15, u16, u17, u18, u19, hI⟩ := hI
    obtain ⟨u20, u21, u22, u23, u24, hI⟩ := hI
    obtain ⟨u25, u26, u27, u28, u29, hI⟩ := hI
    obtain ⟨u30, dm, hI⟩ := hI
    obtain ⟨hLb, hI⟩ := hI
    obtain ⟨hA, hI⟩ := hI
    obtain ⟨kB, hI⟩ := hI
    have kF := hI
    clear hI
    subst hLb
    subst hA
    replace kB := hide kB
    replace kF := hide kF
    refine ⟨?_, ?_, ?_, ?_, ?_, ?_, ?_, ?_, ?_, ?_, ?_, ?_, ?_, ?_, ?_, ?_, ?_, ?_, ?_, ?_, ?_, ?_, ?_, ?_, ?_, ?_, ?_, ?_, ?_, ?_, ?_, trivial⟩
    · intro h0 hd K hK
      have z : u0 = false := h0
      have z30_ : u30 = false := znb fun hu => z.symm.trans ((zu kF hu).1)
      subst z30_
      subst z
      clear h0 hd
      rw [if_pos (by rfl)]
      go_simp
      exact unhide hK _ _ ⟨true, u1, u2, u3, u4, u5, u6, u7, u8, u9, u10, u11, u12, u13, u14, u15, u16, u17, u18, u19, u20, u21, u22, u23, u24, u25, u26, u27, u28, u29, false, dm, rfl, rfl, zu kB, zf⟩
    · intro h0 hd K hK
      have z : u1 = false := h0
      have z30_ : u30 = false := znb fun hu => z.symm.trans ((zu kF hu).2.1)
      have zd : u0 = true := by
        simp [Region.binds] at hd
        simp [hd]
      obtain ⟨rfl⟩ := zd
      subst z30_
      subst z
      clear h0 hd
      rw [if_pos (by rfl)]
      go_simp
      exact unhide hK _ _ ⟨true, true, u2, u3, u4, u5, u6, u7, u8, u9, u10, u11, u12, u13, u14, u15, u16, u17, u18, u19, u20, u21, u22, u23, u24, u25, u26, u27, u28, u29, false, dm, rfl, rfl, zu kB, zf⟩
    · intro h0 hd K hK
      have z : u2 = false := h0
      have z30_ : u30 = false := znb fun hu => z.symm.trans ((zu kF hu).2.2.1)
      have zd : u1 = true := by
        simp [Region.binds] at hd
        simp [hd]
      obtain ⟨rfl⟩ := zd
      subst z30_
      subst z
      clear h0 hd
      rw [if_pos (by rfl)]
      have c0 := keep1 (zu kB) (unhide HG1)
      go_simp
      exact unhide hK _ _ ⟨u0, true, true, u3, u4, u5, u6, u7, u8, u9, u10, u11, u12, u13, u14, u15, u16, u17, u18, u19, u20, u21, u22, u23, u24, u25, u26, u27, u28, u29, false, dm, rfl, rfl, zu kB, zf⟩
    · intro h0 hd K hK
      have z : u3 = false := h0
      have z30_ : u30 = false := znb fun hu => z.symm.trans ((zu kF hu).2.2.2.1)
      subst z30_
      subst z
      clear h0 hd
      rw [if_pos (by rfl)]
      have c0 := keep1 (zu kB) (unhide HH0)
      have c1 := keep1 (zu kB) (unhide HH1)
      have c2 := keep1 (zu kB) (unhide HH2)
      have c3 := keep1 (zu kB) (unhide HH3)
      have c4 := keep1 (zu kB) (unhide HH4)
      have c5 := keep1 (zu kB) (unhide HH5)
      go_simp
      exact unhide hK _ _ ⟨u0, u1, u2, true, u4, u5, u6, u7, u8, u9, u10, u11, u12, u13, u14, u15, u16, u17, u18, u19, u20, u21, u22, u23, u24, u25, u26, u27, u28, u29, false, dm, rfl, rfl, zu kB, zf⟩
    · intro h0 hd K hK
      have z : u4 = false := h0
      have z30_ : u30 = false := znb fun hu => z.symm.trans ((zu kF hu).2.2.2.2.1)
      have zd : u3 = true := by
        simp [Region.binds] at hd
        simp [hd]
      obtain ⟨rfl⟩ := zd
      subst z30_
      subst z
      clear h0 hd
      rw [if_pos (by rfl)]
      go_simp
      refine (unhide HF4 W (zu kB)).mono ?_
      rintro e w8 ⟨rfl, hb8⟩
      exact unhide hK _ _ ⟨u0, u1, u2, true, true, u5, u6, u7, u8, u9, u10, u11, u12, u13, u14, u15, u16, u17, u18, u19, u20, u21, u22, u23, u24, u25, u26, u27, u28, u29, false, dm, rfl, rfl, bc (zu kB) hb8, zf⟩
    · intro h0 hd K hK
      have z : u5 = false := h0
      have z30_ : u30 = false := znb fun hu => z.symm.trans ((zu kF hu).2.2.2.2.2.1)
      have zd : u2 = true ∧ u4 = true := by
        simp [Region.binds] at hd
        simp [hd]
      obtain ⟨rfl, rfl⟩ := zd
      subst z30_
      subst z
      clear h0 hd
      rw [if_pos (by rfl)]
      go_simp
      exact unhide hK _ _ ⟨u0, u1, true, u3, true, true, u6, u7, u8, u9, u10, u11, u12, u13, u14, u15, u16, u17, u18, u19, u20, u21, u22, u23, u24, u25, u26, u27, u28, u29, false, dm, rfl, rfl, zu kB, zf⟩
    · intro h0 hd K hK
      have z : u6 = false := h0
      have z30_ : u30 = false := znb fun hu => z.symm.trans ((zu kF hu).2.2.2.2.2.2.1)
      have zd : u5 = true := by
        simp [Region.binds] at hd
        simp [hd]
      obtain ⟨rfl⟩ := zd
      subst z30_
      subst z
      clear h0 hd
      rw [if_pos (by rfl)]
      go_simp
      exact unhide hK _ _ ⟨u0, u1, u2, u3, u4, true, true, u7, u8, u9, u10, u11, u12, u13, u14, u15, u16, u17, u18, u19, u20, u21, u22, u23, u24, u25, u26, u27, u28, u29, false, dm, rfl, rfl, zu kB, zf⟩
    · intro h0 hd K hK
      have z : u7 = false := h0
      have z30_ : u30 = false := znb fun hu => z.symm.trans ((zu kF hu).2.2.2.2.2.2.2.1)
      have zd : u6 = true := by
        simp [Region.binds] at hd
        simp [hd]
      obtain ⟨rfl⟩ := zd
      subst z30_
      subst z
      clear h0 hd
      rw [if_pos (by rfl)]
      go_simp
      exact unhide hK _ _ ⟨u0, u1, u2, u3, u4, u5, true, true, u8, u9, u10, u11, u12, u13, u14, u15, u16, u17, u18, u19, u20, u21, u22, u23, u24, u25, u26, u27, u28, u29, false, dm, rfl, rfl, zu kB, zf⟩
    · intro h0 hd K hK
      have z : u8 = false := h0
      have z30_ : u30 = false := znb fun hu => z.symm.trans ((zu kF hu).2.2.2.2.2.2.2.2.1)
      have zd : u7 = true ∧ u6 = true := by
        simp [Region.binds] at hd
        simp [hd]
      obtain ⟨rfl, rfl⟩ := zd
      subst z30_
      subst z
      clear h0 hd
      rw [if_pos (by rfl)]
      go_simp
      exact unhide hK _ _ ⟨u0, u1, u2, u3, u4, u5, true, true, true, u9, u10, u11, u12, u13, u14, u15, u16, u17, u18, u19, u20, u21, u22, u23, u24, u25, u26, u27, u28, u29, false, dm, rfl, rfl, zu kB, zf⟩
    · intro h0 hd K hK
      have z : u9 = false := h0
      have z30_ : u30 = false := znb fun hu => z.symm.trans ((zu kF hu).2.2.2.2.2.2.2.2.2.1)
      have zd : u8 = true ∧ u6 = true := by
        simp [Region.binds] at hd
        simp [hd]
      obtain ⟨rfl, rfl⟩ := zd
      subst z30_
      subst z
      clear h0 hd
      rw [if_pos (by rfl)]
      have c0 := keep1 (zu kB) (unhide HH1)
      go_simp
      exact unhide hK _ _ ⟨u0, u1, u2, u3, u4, u5, true, u7, true, true, u10, u11, u12, u13, u14, u15, u16, u17, u18, u19, u20, u21, u22, u23, u24, u25, u26, u27, u28, u29, false, dm, rfl, rfl, zu kB, zf⟩
    · intro h0 hd K hK
      have z : u10 = false := h0
      have z30_ : u30 = false := znb fun hu => z.symm.trans ((zu kF hu).2.2.2.2.2.2.2.2.2.2.1)
      have zd : u6 = true := by
        simp [Region.binds] at hd
        simp [hd]
      obtain ⟨rfl⟩ := zd
      subst z30_
      subst z
      clear h0 hd
      rw [if_pos (by rfl)]
      have c0 := keep1 (zu kB) (unhide HG0)
      have c1 := keep1 (zu kB) (unhide HG1)
      have c2 := keep1 (zu kB) (unhide HG2)
      have c3 := keep1 (zu kB) (unhide HG3)
      have c4 := keep1 (zu kB) (unhide HG4)
      have c5 := keep1 (zu kB) (unhide HG5)
      go_simp
      exact unhide hK _ _ ⟨u0, u1, u2, u3, u4, u5, true, u7, u8, u9, true, u11, u12, u13, u14, u15, u16, u17, u18, u19, u20, u21, u22, u23, u24, u25, u26, u27, u28, u29, false, dm, rfl, rfl, zu kB, zf⟩
    · intro h0 hd K hK
      have z : u11 = false := h0
      have z30_ : u30 = false := znb fun hu => z.symm.trans ((zu kF hu).2.2.2.2.2.2.2.2.2.2.2.1)
      have zd : u10 = true ∧ u6 = true := by
        simp [Region.binds] at hd
        simp [hd]
      obtain ⟨rfl, rfl⟩ := zd
      subst z30_
      subst z
      clear h0 hd
      rw [if_pos (by rfl)]
      go_simp
      refine (unhide HF11 W (zu kB)).mono ?_
      rintro e w8 ⟨rfl, hb8⟩
      exact unhide hK _ _ ⟨u0, u1, u2, u3, u4, u5, true, u7, u8, u9, true, true, u12, u13, u14, u15, u16, u17, u18, u19, u20, u21, u22, u23, u24, u25, u26, u27, u28, u29, false, dm, rfl, rfl, bc (zu kB) hb8, zf⟩
    · intro h0 hd K hK
      have z : u12 = false := h0
      have z30_ : u30 = false := znb fun hu => z.symm.trans ((zu kF hu).2.2.2.2.2.2.2.2.2.2.2.2.1)
      have zd : u9 = true ∧ u11 = true ∧ u6 = true := by
        simp [Region.binds] at hd
        simp [hd]
      obtain ⟨rfl, rfl, rfl⟩ := zd
      subst z30_
      subst z
      clear h0 hd
      rw [if_pos (by rfl)]
      go_simp
      exact unhide hK _ _ ⟨u0, u1, u2, u3, u4, u5, true, u7, u8, true, u10, true, true, u13, u14, u15, u16, u17, u18, u19, u20, u21, u22, u23, u24, u25, u26, u27, u28, u29, false, dm, rfl, rfl, zu kB, zf⟩
    · intro h0 hd K hK
      have z : u13 = false := h0
      have z30_ : u30 = false := znb fun hu => z.symm.trans ((zu kF hu).2.2.2.2.2.2.2.2.2.2.2.2.2.1)
      have zd : u6 = true ∧ u12 = true := by
        simp [Region.binds] at hd
        simp [hd]
      obtain ⟨rfl, rfl⟩ := zd
      subst z30_
      subst z
      clear h0 hd
      rw [if_pos (by rfl)]
      go_simp
      exact unhide hK _ _ ⟨u0, u1, u2, u3, u4, u5, true, u7, u8, u9, u10, u11, true, true, u14, u15, u16, u17, u18, u19, u20, u21, u22, u23, u24, u25, u26, u27, u28, u29, false, dm, rfl, rfl, zu kB, zf⟩
    · intro h0 hd K hK
      have z : u14 = false := h0
      have z30_ : u30 = false := znb fun hu => z.symm.trans ((zu kF hu).2.2.2.2.2.2.2.2.2.2.2.2.2.2.1)
      have zd : u13 = true := by
        simp [Region.binds] at hd
        simp [hd]
      obtain ⟨rfl⟩ := zd
      subst z30_
      subst z
      clear h0 hd
      rw [if_pos (by rfl)]
      go_simp
      exact unhide hK _ _ ⟨u0, u1, u2, u3, u4, u5, u6, u7, u8, u9, u10, u11, u12, true, true, u15, u16, u17, u18, u19, u20, u21, u22, u23, u24, u25, u26, u27, u28, u29, false, dm, rfl, rfl, zu kB, zf⟩
    · intro h0 hd K hK
      have z : u15 = false := h0
      have z30_ : u30 = false := znb fun hu => z.symm.trans ((zu kF hu).2.2.2.2.2.2.2.2.2.2.2.2.2.2.2.1)
      have zd : u14 = true := by
        simp [Region.binds] at hd
        simp [hd]
      obtain ⟨rfl⟩ := zd
      subst z30_
      subst z
      clear h0 hd
      rw [if_neg (Bool.eq_false_iff.1 (by rfl))]
      try go_simp
      exact unhide hK _ _ ⟨u0, u1, u2, u3, u4, u5, u6, u7, u8, u9, u10, u11, u12, u13, true, true, u16, u17, u18, u19, u20, u21, u22, u23, u24, u25, u26, u27, u28, u29, false, dm, rfl, rfl, zu kB, zf⟩
    · intro h0 hd K hK
      have z : u16 = false := h0
      have z30_ : u30 = false := znb fun hu => z.symm.trans ((zu kF hu).2.2.2.2.2.2.2.2.2.2.2.2.2.2.2.2.1)
      have zd : u15 = true ∧ u14 = true := by
        simp [Region.binds] at hd
        simp [hd]
      obtain ⟨rfl, rfl⟩ := zd
      subst z30_
      subst z
      clear h0 hd
      rw [if_neg (Bool.eq_false_iff.1 (by rfl))]
      try go_simp
      exact unhide hK _ _ ⟨u0, u1, u2, u3, u4, u5, u6, u7, u8, u9, u10, u11, u12, u13, true, true, true, u17, u18, u19, u20, u21, u22, u23, u24, u25, u26, u27, u28, u29, false, dm, rfl, rfl, zu kB, zf⟩
    · intro h0 hd K hK
      have z : u17 = false := h0
      have z30_ : u30 = false := znb fun hu => z.symm.trans ((zu kF hu).2.2.2.2.2.2.2.2.2.2.2.2.2.2.2.2.2.1)
      have zd : u16 = true ∧ u14 = true := by
        simp [Region.binds] at hd
        simp [hd]
      obtain ⟨rfl, rfl⟩ := zd
      subst z30_
      subst z
      clear h0 hd
      rw [if_neg (Bool.eq_false_iff.1 (by rfl))]
      try go_simp
      exact unhide hK _ _ ⟨u0, u1, u2, u3, u4, u5, u6, u7, u8, u9, u10, u11, u12, u13, true, u15, true, true, u18, u19, u20, u21, u22, u23, u24, u25, u26, u27, u28, u29, false, dm, rfl, rfl, zu kB, zf⟩
    · intro h0 hd K hK
      have z : u18 = false := h0
      have z30_ : u30 = false := znb fun hu => z.symm.trans ((zu kF hu).2.2.2.2.2.2.2.2.2.2.2.2.2.2.2.2.2.2.1)
      have zd : u14 = true := by
        simp [Region.binds] at hd
        simp [hd]
      obtain ⟨rfl⟩ := zd
      subst z30_
      subst z
      clear h0 hd
      rw [if_neg (Bool.eq_false_iff.1 (by rfl))]
      try go_simp
      exact unhide hK _ _ ⟨u0, u1, u2, u3, u4, u5, u6, u7, u8, u9, u10, u11, u12, u13, true, u15, u16, u17, true, u19, u20, u21, u22, u23, u24, u25, u26, u27, u28, u29, false, dm, rfl, rfl, zu kB, zf⟩
    · intro h0 hd K hK
      have z : u19 = false := h0
      have z30_ : u30 = false := znb fun hu => z.symm.trans ((zu kF hu).2.2.2.2.2.2.2.2.2.2.2.2.2.2.2.2.2.2.2.1)
      have zd : u18 = true ∧ u14 = true := by
        simp [Region.binds] at hd
        simp [hd]
      obtain ⟨rfl, rfl⟩ := zd
      subst z30_
      subst z
      clear h0 hd
      rw [if_neg (Bool.eq_false_iff.1 (by rfl))]
      try go_simp
      exact unhide hK _ _ ⟨u0, u1, u2, u3, u4, u5, u6, u7, u8, u9, u10, u11, u12, u13, true, u15, u16, u17, true, true, u20, u21, u22, u23, u24, u25, u26, u27, u28, u29, false, dm, rfl, rfl, zu kB, zf⟩
    · intro h0 hd K hK
      have z : u20 = false := h0
      have z30_ : u30 = false := znb fun hu => z.symm.trans ((zu kF hu).2.2.2.2.2.2.2.2.2.2.2.2.2.2.2.2.2.2.2.2.1)
      have zd : u17 = true ∧ u19 = true ∧ u14 = true := by
        simp [Region.binds] at hd
        simp [hd]
      obtain ⟨rfl, rfl, rfl⟩ := zd
      subst z30_
      subst z
      clear h0 hd
      rw [if_neg (Bool.eq_false_iff.1 (by rfl))]
      try go_simp
      exact unhide hK _ _ ⟨u0, u1, u2, u3, u4, u5, u6, u7, u8, u9, u10, u11, u12, u13, true, u15, u16, true, u18, true, true, u21, u22, u23, u24, u25, u26, u27, u28, u29, false, dm, rfl, rfl, zu kB, zf⟩
    · intro h0 hd K hK
      have z : u21 = false := h0
      have z30_ : u30 = false := znb fun hu => z.symm.trans ((zu kF hu).2.2.2.2.2.2.2.2.2.2.2.2.2.2.2.2.2.2.2.2.2.1)
      have zd : u14 = true ∧ u20 = true := by
        simp [Region.binds] at hd
        simp [hd]
      obtain ⟨rfl, rfl⟩ := zd
      subst z30_
      subst z
      clear h0 hd
      rw [if_pos (by rfl)]
      go_simp
      exact unhide hK _ _ ⟨u0, u1, u2, u3, u4, u5, u6, u7, u8, u9, u10, u11, u12, u13, true, u15, u16, u17, u18, u19, true, true, u22, u23, u24, u25, u26, u27, u28, u29, false, dm, rfl, rfl, zu kB, zf⟩
    · intro h0 hd K hK
      have z : u22 = false := h0
      have z30_ : u30 = false := znb fun hu => z.symm.trans ((zu kF hu).2.2.2.2.2.2.2.2.2.2.2.2.2.2.2.2.2.2.2.2.2.2.1)
      have zd : u21 = true := by
        simp [Region.binds] at hd
        simp [hd]
      obtain ⟨rfl⟩ := zd
      subst z30_
      subst z
      clear h0 hd
      rw [if_pos (by rfl)]
      go_simp
      exact unhide hK _ _ ⟨u0, u1, u2, u3, u4, u5, u6, u7, u8, u9, u10, u11, u12, u13, u14, u15, u16, u17, u18, u19, u20, true, true, u23, u24, u25, u26, u27, u28, u29, false, dm, rfl, rfl, zu kB, zf⟩
    · intro h0 hd K hK
      have z : u23 = false := h0
      have z30_ : u30 = false := znb fun hu => z.symm.trans ((zu kF hu).2.2.2.2.2.2.2.2.2.2.2.2.2.2.2.2.2.2.2.2.2.2.2.1)
      have zd : u22 = true := by
        simp [Region.binds] at hd
        simp [hd]
      obtain ⟨rfl⟩ := zd
      subst z30_
      subst z
      clear h0 hd
      rw [if_neg (Bool.eq_false_iff.1 (by rfl))]
      try go_simp
      exact unhide hK _ _ ⟨u0, u1, u2, u3, u4, u5, u6, u7, u8, u9, u10, u11, u12, u13, u14, u15, u16, u17, u18, u19, u20, u21, true, true, u24, u25, u26, u27, u28, u29, false, dm, rfl, rfl, zu kB, zf⟩
    · intro h0 hd K hK
      have z : u24 = false := h0
      have z30_ : u30 = false := znb fun hu => z.symm.trans ((zu kF hu).2.2.2.2.2.2.2.2.2.2.2.2.2.2.2.2.2.2.2.2.2.2.2.2.1)
      have zd : u23 = true ∧ u22 = true := by
        simp [Region.binds] at hd
        simp [hd]
      obtain ⟨rfl, rfl⟩ := zd
      subst z30_
      subst z
      clear h0 hd
      rw [if_neg (Bool.eq_false_iff.1 (by rfl))]
      try go_simp
      exact unhide hK _ _ ⟨u0, u1, u2, u3, u4, u5, u6, u7, u8, u9, u10, u11, u12, u13, u14, u15, u16, u17, u18, u19, u20, u21, true, true, true, u25, u26, u27, u28, u29, false, dm, rfl, rfl, zu kB, zf⟩
    · intro h0 hd K hK
      have z : u25 = false := h0
      have z30_ : u30 = false := znb fun hu => z.symm.trans ((zu kF hu).2.2.2.2.2.2.2.2.2.2.2.2.2.2.2.2.2.2.2.2.2.2.2.2.2.1)
      have zd : u24 = true ∧ u22 = true := by
        simp [Region.binds] at hd
        simp [hd]
      obtain ⟨rfl, rfl⟩ := zd
      subst z30_
      subst z
      clear h0 hd
      rw [if_neg (Bool.eq_false_iff.1 (by rfl))]
      try go_simp
      exact unhide hK _ _ ⟨u0, u1, u2, u3, u4, u5, u6, u7, u8, u9, u10, u11, u12, u13, u14, u15, u16, u17, u18, u19, u20, u21, true, u23, true, true, u26, u27, u28, u29, false, dm, rfl, rfl, zu kB, zf⟩
    · intro h0 hd K hK
      have z : u26 = false := h0
      have z30_ : u30 = false := znb fun hu => z.symm.trans ((zu kF hu).2.2.2.2.2.2.2.2.2.2.2.2.2.2.2.2.2.2.2.2.2.2.2.2.2.2.1)
      have zd : u22 = true := by
        simp [Region.binds] at hd
        simp [hd]
      obtain ⟨rfl⟩ := zd
      subst z30_
      subst z
      clear h0 hd
      rw [if_neg (Bool.eq_false_iff.1 (by rfl))]
      try go_simp
      exact unhide hK _ _ ⟨u0, u1, u2, u3, u4, u5, u6, u7, u8, u9, u10, u11, u12, u13, u14, u15, u16, u17, u18, u19, u20, u21, true, u23, u24, u25, true, u27, u28, u29, false, dm, rfl, rfl, zu kB, zf⟩
    · intro h0 hd K hK
      have z : u27 = false := h0
      have z30_ : u30 = false := znb fun hu => z.symm.trans ((zu kF hu).2.2.2.2.2.2.2.2.2.2.2.2.2.2.2.2.2.2.2.2.2.2.2.2.2.2.2.1)
      have zd : u26 = true ∧ u22 = true := by
        simp [Region.binds] at hd
        simp [hd]
      obtain ⟨rfl, rfl⟩ := zd
      subst z30_
      subst z
      clear h0 hd
      rw [if_neg (Bool.eq_false_iff.1 (by rfl))]
      try go_simp
      exact unhide hK _ _ ⟨u0, u1, u2, u3, u4, u5, u6, u7, u8, u9, u10, u11, u12, u13, u14, u15, u16, u17, u18, u19, u20, u21, true, u23, u24, u25, true, true, u28, u29, false, dm, rfl, rfl, zu kB, zf⟩
    · intro h0 hd K hK
      have z : u28 = false := h0
      have z30_ : u30 = false := znb fun hu => z.symm.trans ((zu kF hu).2.2.2.2.2.2.2.2.2.2.2.2.2.2.2.2.2.2.2.2.2.2.2.2.2.2.2.2.1)
      have zd : u25 = true ∧ u27 = true ∧ u22 = true := by
        simp [Region.binds] at hd
        simp [hd]
      obtain ⟨rfl, rfl, rfl⟩ := zd
      subst z30_
      subst z
      clear h0 hd
      rw [if_neg (Bool.eq_false_iff.1 (by rfl))]
      try go_simp
      exact unhide hK _ _ ⟨u0, u1, u2, u3, u4, u5, u6, u7, u8, u9, u10, u11, u12, u13, u14, u15, u16, u17, u18, u19, u20, u21, true, u23, u24, true, u26, true, true, u29, false, dm, rfl, rfl, zu kB, zf⟩
    · intro h0 hd K hK
      have z : u29 = false := h0
      have z30_ : u30 = false := znb fun hu => z.symm.trans ((zu kF hu).2.2.2.2.2.2.2.2.2.2.2.2.2.2.2.2.2.2.2.2.2.2.2.2.2.2.2.2.2)
      have zd : u22 = true ∧ u28 = true := by
        simp [Region.binds] at hd
        simp [hd]
      obtain ⟨rfl, rfl⟩ := zd
      subst z30_
      subst z
      clear h0 hd
      rw [if_pos (by rfl)]
      go_simp
      exact unhide hK _ _ ⟨u0, u1, u2, u3, u4, u5, u6, u7, u8, u9, u10, u11, u12, u13, u14, u15, u16, u17, u18, u19, u20, u21, true, u23, u24, u25, u26, u27, true, true, false, dm, rfl, rfl, zu kB, zf⟩
    · intro h0 hd K hK
      have z : u30 = false := h0
      have zd0 : u0 = true ∧ u1 = true ∧ u2 = true ∧ u3 = true ∧ u4 = true ∧ u5 = true ∧ u6 = true ∧ u7 = true ∧ u8 = true ∧ u9 = true ∧ u10 = true ∧ u11 = true ∧ u12 = true ∧ u13 = true ∧ u14 = true ∧ u15 = true ∧ u16 = true ∧ u17 = true ∧ u18 = true ∧ u19 = true ∧ u20 = true ∧ u21 = true ∧ u22 = true ∧ u23 = true ∧ u24 = true ∧ u25 = true ∧ u26 = true ∧ u27 = true ∧ u28 = true ∧ u29 = true := by
        simp [Region.binds] at hd
        simp [hd]
      have zd : u0 = true ∧ u1 = true ∧ u2 = true ∧ u3 = true ∧ u4 = true ∧ u5 = true ∧ u6 = true ∧ u7 = true ∧ u8 = true ∧ u9 = true ∧ u10 = true ∧ u11 = true ∧ u12 = true ∧ u13 = true ∧ u14 = true ∧ u15 = true ∧ u16 = true ∧ u17 = true ∧ u18 = true ∧ u19 = true ∧ u20 = true ∧ u21 = true ∧ u22 = true ∧ u23 = true ∧ u24 = true ∧ u25 = true ∧ u26 = true ∧ u27 = true ∧ u28 = true ∧ u29 = true := ⟨zd0.1, zd0.2.1, zd0.2.2.1, zd0.2.2.2.1, zd0.2.2.2.2.1, zd0.2.2.2.2.2.1, zd0.2.2.2.2.2.2.1, zd0.2.2.2.2.2.2.2.1, zd0.2.2.2.2.2.2.2.2.1, zd0.2.2.2.2.2.2.2.2.2.1, zd0.2.2.2.2.2.2.2.2.2.2.1, zd0.2.2.2.2.2.2.2.2.2.2.2.1, zd0.2.2.2.2.2.2.2.2.2.2.2.2.1, zd0.2.2.2.2.2.2.2.2.2.2.2.2.2.1, zd0.2.2.2.2.2.2.2.2.2.2.2.2.2.2.1, zd0.2.2.2.2.2.2.2.2.2.2.2.2.2.2.2.1, zd0.2.2.2.2.2.2.2.2.2.2.2.2.2.2.2.2.1, zd0.2.2.2.2.2.2.2.2.2.2.2.2.2.2.2.2.2.1, zd0.2.2.2.2.2.2.2.2.2.2.2.2.2.2.2.2.2.2.1, zd0.2.2.2.2.2.2.2.2.2.2.2.2.2.2.2.2.2.2.2.1, zd0.2.2.2.2.2.2.2.2.2.2.2.2.2.2.2.2.2.2.2.2.1, zd0.2.2.2.2.2.2.2.2.2.2.2.2.2.2.2.2.2.2.2.2.2.1, zd0.2.2.2.2.2.2.2.2.2.2.2.2.2.2.2.2.2.2.2.2.2.2.1, zd0.2.2.2.2.2.2.2.2.2.2.2.2.2.2.2.2.2.2.2.2.2.2.2.1, zd0.2.2.2.2.2.2.2.2.2.2.2.2.2.2.2.2.2.2.2.2.2.2.2.2.1, zd0.2.2.2.2.2.2.2.2.2.2.2.2.2.2.2.2.2.2.2.2.2.2.2.2.2.1, zd0.2.2.2.2.2.2.2.2.2.2.2.2.2.2.2.2.2.2.2.2.2.2.2.2.2.2.1, zd0.2.2.2.2.2.2.2.2.2.2.2.2.2.2.2.2.2.2.2.2.2.2.2.2.2.2.2.1, zd0.2.2.2.2.2.2.2.2.2.2.2.2.2.2.2.2.2.2.2.2.2.2.2.2.2.2.2.2.1, zd0.2.2.2.2.2.2.2.2.2.2.2.2.2.2.2.2.2.2.2.2.2.2.2.2.2.2.2.2.2⟩
      obtain ⟨rfl, rfl, rfl, rfl, rfl, rfl, rfl, rfl, rfl, rfl, rfl, rfl, rfl, rfl, rfl, rfl, rfl, rfl, rfl, rfl, rfl, rfl, rfl, rfl, rfl, rfl, rfl, rfl, rfl, rfl⟩ := zd
      subst z
      clear h0 hd
      rw [if_pos (by rfl)]
      go_simp
      exact unhide hK _ _ ⟨true, true, true, true, true, true, true, true, true, true, true, true, true, true, true, true, true, true, true, true, true, true, true, true, true, true, true, true, true, true, true, dm, rfl, rfl, zu kB, (fun _ => ⟨rfl, rfl, rfl, rfl, rfl, rfl, rfl, rfl, rfl, rfl, rfl, rfl, rfl, rfl, rfl, rfl, rfl, rfl, rfl, rfl, rfl, rfl, rfl, rfl, rfl, rfl, rfl, rfl, rfl, rfl⟩)⟩
  case hend =>
    intro Lb A W hI
    obtain ⟨u0, u1, u2, u3, u4, hI⟩ := hI
    obtain ⟨u5, u6, u7, u8, u9, hI⟩ := hI
    obtain ⟨u10, u11, u12, u13, u14, hI⟩ := hI
    obtain ⟨u15, u16, u17, u18, u19, hI⟩ := hI
    obtain ⟨u20, u21, u22, u23, u24, hI⟩ := hI
    obtain ⟨u25, u26, u27, u28, u29, hI⟩ := hI
    obtain ⟨u30, dm, hI⟩ := hI
    obtain ⟨hLb, hI⟩ := hI
    obtain ⟨hA, hI⟩ := hI
    obtain ⟨kB, hI⟩ := hI
    have kF := hI
    clear hI
    subst hLb
    subst hA
    intro hL
    have hl : u0 = true ∧ u1 = true ∧ u2 = true ∧ u3 = true ∧ u4 = true ∧ u5 = true ∧ u6 = true ∧ u7 = true ∧ u8 = true ∧ u9 = true ∧ u10 = true ∧ u11 = true ∧ u12 = true ∧ u13 = true ∧ u14 = true ∧ u15 = true ∧ u16 = true ∧ u17 = true ∧ u18 = true ∧ u19 = true ∧ u20 = true ∧ u21 = true ∧ u22 = true ∧ u23 = true ∧ u24 = true ∧ u25 = true ∧ u26 = true ∧ u27 = true ∧ u28 = true ∧ u29 = true ∧ u30 = true := by
      have h2 := congrArg Array.toList hL
      simpa [List.replicate] using h2
    obtain ⟨rfl, rfl, rfl, rfl, rfl, rfl, rfl, rfl, rfl, rfl, rfl, rfl, rfl, rfl, rfl, rfl, rfl, rfl, rfl, rfl, rfl, rfl, rfl, rfl, rfl, rfl, rfl, rfl, rfl, rfl, rfl⟩ := hl
    exact unhide HQ  W kB

set_option maxHeartbeats 4000000 in
set_option maxRecDepth 100000 in
theorem ov_c {s0 s1 s4 s5 s6 s7 s8 s9 s10 s11 s12 s13 s14 s15 s16 s17 s18 s19 s20 s21 s22 s23 s24 s25 s26 s27 s28 s29 s30 s31 s32 s33 s34 : Value} {g hh : Nat} {ma xa ya wa ha mb xb yb wb hb R P Q S : Int} {ta tb : Bool} {V : World} {K_ : Act → World → Prop} (h1 : xa < R) (h2 : xb < P) (h3 : ¬ ya < Q)
    (HG0 : Hid (V.cell? ⟨g, 0, none⟩ = some (.int .i64 (ma)))) (HG1 : Hid (V.cell? ⟨g, 1, none⟩ = some (.int .i64 (xa)))) (HG2 : Hid (V.cell? ⟨g, 2, none⟩ = some (.int .i64 (ya)))) (HG3 : Hid (V.cell? ⟨g, 3, none⟩ = some (.bool (ta)))) (HG4 : Hid (V.cell? ⟨g, 4, none⟩ = some (.int .i64 (wa)))) (HG5 : Hid (V.cell? ⟨g, 5, none⟩ = some (.int .i64 (ha)))) (HH0 : Hid (V.cell? ⟨hh, 0, none⟩ = some (.int .i64 (mb)))) (HH1 : Hid (V.cell? ⟨hh, 1, none⟩ = some (.int .i64 (xb)))) (HH2 : Hid (V.cell? ⟨hh, 2, none⟩ = some (.int .i64 (yb)))) (HH3 : Hid (V.cell? ⟨hh, 3, none⟩ = some (.bool (tb)))) (HH4 : Hid (V.cell? ⟨hh, 4, none⟩ = some (.int .i64 (wb)))) (HH5 : Hid (V.cell? ⟨hh, 5, none⟩ = some (.int .i64 (hb)))) 
    (HF4 : Hid (∀ Xw, Below V.heap.size V Xw → Calls Try.prog 43 #[.agg #[.int .i64 (mb), .int .i64 (xb), .int .i64 (yb), .bool (tb), .int .i64 (wb), .int .i64 (hb)]] Xw fun e w' => e = .returned (.int .i64 (R)) ∧ Below Xw.heap.size Xw w'))
    (HF11 : Hid (∀ Xw, Below V.heap.size V Xw → Calls Try.prog 43 #[.agg #[.int .i64 (ma), .int .i64 (xa), .int .i64 (ya), .bool (ta), .int .i64 (wa), .int .i64 (ha)]] Xw fun e w' => e = .returned (.int .i64 (P)) ∧ Below Xw.heap.size Xw w'))
    (HF19 : Hid (∀ Xw, Below V.heap.size V Xw → Calls Try.prog 45 #[.agg #[.int .i64 (mb), .int .i64 (xb), .int .i64 (yb), .bool (tb), .int .i64 (wb), .int .i64 (hb)]] Xw fun e w' => e = .returned (.int .i64 (Q)) ∧ Below Xw.heap.size Xw w'))
    (hQ : ∀ (W1 : World), Below V.heap.size V W1 → K_ { tmps := #[s0, s1, .pointer (some ⟨g, 0, none⟩), .pointer (some ⟨hh, 0, none⟩), .bool (false), .pointer (some ⟨g, 0, none⟩), .pointer (some ⟨g, 1, none⟩), .int .i64 (xa), .agg #[.int .i64 (mb), .int .i64 (xb), .int .i64 (yb), .bool (tb), .int .i64 (wb), .int .i64 (hb)], .int .i64 (R), .bool (true), .bool (true), .pointer (some ⟨hh, 0, none⟩), .pointer (some ⟨hh, 1, none⟩), .int .i64 (xb), .agg #[.int .i64 (ma), .int .i64 (xa), .int .i64 (ya), .bool (ta), .int .i64 (wa), .int .i64 (ha)], .int .i64 (P), .bool (true), .bool (true), .bool (true), .pointer (some ⟨g, 0, none⟩), .pointer (some ⟨g, 2, none⟩), .int .i64 (ya), .agg #[.int .i64 (mb), .int .i64 (xb), .int .i64 (yb), .bool (tb), .int .i64 (wb), .int .i64 (hb)], .int .i64 (Q), .bool (false), .bool (false), .bool (false), undef, undef, undef, undef, undef, undef, .bool (false)], defers := [] } W1) :
    Go.Code.wp Try.prog (rg58 1) (Only K_) { tmps := #[s0, s1, .pointer (some ⟨g, 0, none⟩), .pointer (some ⟨hh, 0, none⟩), s4, s5, s6, s7, s8, s9, s10, s11, s12, s13, s14, s15, s16, s17, s18, s19, s20, s21, s22, s23, s24, s25, s26, s27, s28, s29, s30, s31, s32, s33, s34], defers := [] } V := by
  have HQ := hide hQ
  clear hQ
  have tm1 : decide (xa < R) = true := decide_eq_true h1
  have tm2 : decide (xb < P) = true := decide_eq_true h2
  have tm3 : decide (ya < Q) = false := decide_eq_false h3
  conv => arg 2; whnf
  refine wp_region_inv2 (fun Lb A W => ∃ (u0 u1 u2 u3 u4 u5 u6 u7 u8 u9 u10 u11 u12 u13 u14 u15 u16 u17 u18 u19 u20 u21 u22 u23 u24 u25 u26 u27 u28 u29 u30 : Bool) (dm : Nat), Lb = #[u0, u1, u2, u3, u4, u5, u6, u7, u8, u9, u10, u11, u12, u13, u14, u15, u16, u17, u18, u19, u20, u21, u22, u23, u24, u25, u26, u27, u28, u29, u30] ∧ A = ({ tmps := #[s0, s1, .pointer (some ⟨g, 0, none⟩), .pointer (some ⟨hh, 0, none⟩), (bif u30 then .bool (false) else s4), (bif u0 then .pointer (some ⟨g, 0, none⟩) else s5), (bif u1 then .pointer (some ⟨g, 1, none⟩) else s6), (bif u2 then .int .i64 (xa) else s7), (bif u3 then .agg #[.int .i64 (mb), .int .i64 (xb), .int .i64 (yb), .bool (tb), .int .i64 (wb), .int .i64 (hb)] else s8), (bif u4 then .int .i64 (R) else s9), (bif u5 then .bool (true) else s10), (bif u6 then .bool (true) else s11), (bif u7 then .pointer (some ⟨hh, 0, none⟩) else s12), (bif u8 then .pointer (some ⟨hh, 1, none⟩) else s13), (bif u9 then .int .i64 (xb) else s14), (bif u10 then .agg #[.int .i64 (ma), .int .i64 (xa), .int .i64 (ya), .bool (ta), .int .i64 (wa), .int .i64 (ha)] else s15), (bif u11 then .int .i64 (P) else s16), (bif u12 then .bool (true) else s17), (bif u13 then .bool (true) else s18), (bif u14 then .bool (true) else s19), (bif u15 then .pointer (some ⟨g, 0, none⟩) else s20), (bif u16 then .pointer (some ⟨g, 2, none⟩) else s21), (bif u17 then .int .i64 (ya) else s22), (bif u18 then .agg #[.int .i64 (mb), .int .i64 (xb), .int .i64 (yb), .bool (tb), .int .i64 (wb), .int .i64 (hb)] else s23), (bif u19 then .int .i64 (Q) else s24), (bif u20 then .bool (false) else s25), (bif u21 then .bool (false) else s26), (bif u22 then .bool (false) else s27), (bif u23 then undef else s28), (bif u24 then undef else s29), (bif u25 then undef else s30), (bif u26 then undef else s31), (bif u27 then undef else s32), (bif u28 then undef else s33), (bif u29 then .bool (false) else s34)], defers := [] } : Act) ∧ Below V.heap.size V W ∧ (u30 = true → u0 = true ∧ u1 = true ∧ u2 = true ∧ u3 = true ∧ u4 = true ∧ u5 = true ∧ u6 = true ∧ u7 = true ∧ u8 = true ∧ u9 = true ∧ u10 = true ∧ u11 = true ∧ u12 = true ∧ u13 = true ∧ u14 = true ∧ u15 = true ∧ u16 = true ∧ u17 = true ∧ u18 = true ∧ u19 = true ∧ u20 = true ∧ u21 = true ∧ u22 = true ∧ u23 = true ∧ u24 = true ∧ u25 = true ∧ u26 = true ∧ u27 = true ∧ u28 = true ∧ u29 = true)) (by kernel_rfl) (by kernel_rfl) ?h0 ?hstep ?hend
  case h0 =>
    exact ⟨false, false, false, false, false, false, false, false, false, false, false, false, false, false, false, false, false, false, false, false, false, false, false, false, false, false, false, false, false, false, false, 0, rfl, rfl, Below.drew (Below.refl _ _), zf⟩
  case hstep =>
    intro Lb A W hI
    obtain ⟨u0, u1, u2, u3, u4, hI⟩ := hI
    obtain ⟨u5, u6, u7, u8, u9, hI⟩ := hI
    obtain ⟨u10, u11, u12, u13, u14, hI⟩ := hI
    obtain ⟨u15, u16, u17, u18, u19, hI⟩ := hI
    obtain ⟨u20, u21, u22, u23, u24, hI⟩ := hI
    obtain ⟨u25, u26, u27, u28, u29, hI⟩ := hI
    obtain ⟨u30, dm, hI⟩ := hI
    obtain ⟨hLb, hI⟩ := hI
    obtain ⟨hA, hI⟩ := hI
    obtain ⟨kB, hI⟩ := hI
    have kF := hI
    clear hI
    subst hLb
    subst hA
    replace kB := hide kB
    replace kF := hide kF
    refine ⟨?_, ?_, ?_, ?_, ?_, ?_, ?_, ?_, ?_, ?_, ?_, ?_, ?_, ?_, ?_, ?_, ?_, ?_, ?_, ?_, ?_, ?_, ?_, ?_, ?_, ?_, ?_, ?_, ?_, ?_, ?_, trivial⟩
    · intro h0 hd K hK
      have z : u0 = false := h0
      have z30_ : u30 = false := znb fun hu => z.symm.trans ((zu kF hu).1)
      subst z30_
      subst z
      clear h0 hd
      rw [if_pos (by rfl)]
      go_simp
      exact unhide hK _ _ ⟨true, u1, u2, u3, u4, u5, u6, u7, u8, u9, u10, u11, u12, u13, u14, u15, u16, u17, u18, u19, u20, u21, u22, u23, u24, u25, u26, u27, u28, u29, false, dm, rfl, rfl, zu kB, zf⟩
    · intro h0 hd K hK
      have z : u1 = false := h0
      have z30_ : u30 = false := znb fun hu => z.symm.trans ((zu kF hu).2.1)
      have zd : u0 = true := by
        simp [Region.binds] at hd
        simp [hd]
      obtain ⟨rfl⟩ := zd
      subst z30_
      subst z
      clear h0 hd
      rw [if_pos (by rfl)]
      go_simp
      exact unhide hK _ _ ⟨true, true, u2, u3, u4, u5, u6, u7, u8, u9, u10, u11, u12, u13, u14, u15, u16, u17, u18, u19, u20, u21, u22, u23, u24, u25, u26, u27, u28, u29, false, dm, rfl, rfl, zu kB, zf⟩
    · intro h0 hd K hK
      have z : u2 = false := h0
      have z30_ : u30 = false := znb fun hu => z.symm.trans ((zu kF hu).2.2.1)
      have zd : u1 = true := by
        simp [Region.binds] at hd
        simp [hd]
      obtain ⟨rfl⟩ := zd
      subst z30_
      subst z
      clear h0 hd
      rw [if_pos (by rfl)]
      have c0 := keep1 (zu kB) (unhide HG1)
      go_simp
      exact unhide hK _ _ ⟨u0, true, true, u3, u4, u5, u6, u7, u8, u9, u10, u11, u12, u13, u14, u15, u16, u17, u18, u19, u20, u21, u22, u23, u24, u25, u26, u27, u28, u29, false, dm, rfl, rfl, zu kB, zf⟩
    · intro h0 hd K hK
      have z : u3 = false := h0
      have z30_ : u30 = false := znb fun hu => z.symm.trans ((zu kF hu).2.2.2.1)
      subst z30_
      subst z
      clear h0 hd
      rw [if_pos (by rfl)]
      have c0 := keep1 (zu kB) (unhide HH0)
      have c1 := keep1 (zu kB) (unhide HH1)
      have c2 := keep1 (zu kB) (unhide HH2)
      have c3 := keep1 (zu kB) (unhide HH3)
      have c4 := keep1 (zu kB) (unhide HH4)
      have c5 := keep1 (zu kB) (unhide HH5)
      go_simp
      exact unhide hK _ _ ⟨u0, u1, u2, true, u4, u5, u6, u7, u8, u9, u10, u11, u12, u13, u14, u15, u16, u17, u18, u19, u20, u21, u22, u23, u24, u25, u26, u27, u28, u29, false, dm, rfl, rfl, zu kB, zf⟩
    · intro h0 hd K hK
      have z : u4 = false := h0
      have z30_ : u30 = false := znb fun hu => z.symm.trans ((zu kF hu).2.2.2.2.1)
      have zd : u3 = true := by
        simp [Region.binds] at hd
        simp [hd]
      obtain ⟨rfl⟩ := zd
      subst z30_
      subst z
      clear h0 hd
      rw [if_pos (by rfl)]
      go_simp
      refine (unhide HF4 W (zu kB)).mono ?_
      rintro e w8 ⟨rfl, hb8⟩
      exact unhide hK _ _ ⟨u0, u1, u2, true, true, u5, u6, u7, u8, u9, u10, u11, u12, u13, u14, u15, u16, u17, u18, u19, u20, u21, u22, u23, u24, u25, u26, u27, u28, u29, false, dm, rfl, rfl, bc (zu kB) hb8, zf⟩
    · intro h0 hd K hK
      have z : u5 = false := h0
      have z30_ : u30 = false := znb fun hu => z.symm.trans ((zu kF hu).2.2.2.2.2.1)
      have zd : u2 = true ∧ u4 = true := by
        simp [Region.binds] at hd
        simp [hd]
      obtain ⟨rfl, rfl⟩ := zd
      subst z30_
      subst z
      clear h0 hd
      rw [if_pos (by rfl)]
      go_simp
      exact unhide hK _ _ ⟨u0, u1, true, u3, true, true, u6, u7, u8, u9, u10, u11, u12, u13, u14, u15, u16, u17, u18, u19, u20, u21, u22, u23, u24, u25, u26, u27, u28, u29, false, dm, rfl, rfl, zu kB, zf⟩
    · intro h0 hd K hK
      have z : u6 = false := h0
      have z30_ : u30 = false := znb fun hu => z.symm.trans ((zu kF hu).2.2.2.2.2.2.1)
      have zd : u5 = true := by
        simp [Region.binds] at hd
        simp [hd]
      obtain ⟨rfl⟩ := zd
      subst z30_
      subst z
      clear h0 hd
      rw [if_pos (by rfl)]
      go_simp
      exact unhide hK _ _ ⟨u0, u1, u2, u3, u4, true, true, u7, u8, u9, u10, u11, u12, u13, u14, u15, u16, u17, u18, u19, u20, u21, u22, u23, u24, u25, u26, u27, u28, u29, false, dm, rfl, rfl, zu kB, zf⟩
    · intro h0 hd K hK
      have z : u7 = false := h0
      have z30_ : u30 = false := znb fun hu => z.symm.trans ((zu kF hu).2.2.2.2.2.2.2.1)
      have zd : u6 = true := by
        simp [Region.binds] at hd
        simp [hd]
      obtain ⟨rfl⟩ := zd
      subst z30_
      subst z
      clear h0 hd
      rw [if_pos (by rfl)]
      go_simp
      exact unhide hK _ _ ⟨u0, u1, u2, u3, u4, u5, true, true, u8, u9, u10, u11, u12, u13, u14, u15, u16, u17, u18, u19, u20, u21, u22, u23, u24, u25, u26, u27, u28, u29, false, dm, rfl, rfl, zu kB, zf⟩
    · intro h0 hd K hK
      have z : u8 = false := h0
      have z30_ : u30 = false := znb fun hu => z.symm.trans ((zu kF hu).2.2.2.2.2.2.2.2.1)
      have zd : u7 = true ∧ u6 = true := by
        simp [Region.binds] at hd
        simp [hd]
      obtain ⟨rfl, rfl⟩ := zd
      subst z30_
      subst z
      clear h0 hd
      rw [if_pos (by rfl)]
      go_simp
      exact unhide hK _ _ ⟨u0, u1, u2, u3, u4, u5, true, true, true, u9, u10, u11, u12, u13, u14, u15, u16, u17, u18, u19, u20, u21, u22, u23, u24, u25, u26, u27, u28, u29, false, dm, rfl, rfl, zu kB, zf⟩
    · intro h0 hd K hK
      have z : u9 = false := h0
      have z30_ : u30 = false := znb fun hu => z.symm.trans ((zu kF hu).2.2.2.2.2.2.2.2.2.1)
      have zd : u8 = true ∧ u6 = true := by
        simp [Region.binds] at hd
        simp [hd]
      obtain ⟨rfl, rfl⟩ := zd
      subst z30_
      subst z
      clear h0 hd
      rw [if_pos (by rfl)]
      have c0 := keep1 (zu kB) (unhide HH1)
      go_simp
      exact unhide hK _ _ ⟨u0, u1, u2, u3, u4, u5, true, u7, true, true, u10, u11, u12, u13, u14, u15, u16, u17, u18, u19, u20, u21, u22, u23, u24, u25, u26, u27, u28, u29, false, dm, rfl, rfl, zu kB, zf⟩
    · intro h0 hd K hK
      have z : u10 = false := h0
      have z30_ : u30 = false := znb fun hu => z.symm.trans ((zu kF hu).2.2.2.2.2.2.2.2.2.2.1)
      have zd : u6 = true := by
        simp [Region.binds] at hd
        simp [hd]
      obtain ⟨rfl⟩ := zd
      subst z30_
      subst z
      clear h0 hd
      rw [if_pos (by rfl)]
      have c0 := keep1 (zu kB) (unhide HG0)
      have c1 := keep1 (zu kB) (unhide HG1)
      have c2 := keep1 (zu kB) (unhide HG2)
      have c3 := keep1 (zu kB) (unhide HG3)
      have c4 := keep1 (zu kB) (unhide HG4)
      have c5 := keep1 (zu kB) (unhide HG5)
      go_simp
      exact unhide hK _ _ ⟨u0, u1, u2, u3, u4, u5, true, u7, u8, u9, true, u11, u12, u13, u14, u15, u16, u17, u18, u19, u20, u21, u22, u23, u24, u25, u26, u27, u28, u29, false, dm, rfl, rfl, zu kB, zf⟩
    · intro h0 hd K hK
      have z : u11 = false := h0
      have z30_ : u30 = false := znb fun hu => z.symm.trans ((zu kF hu).2.2.2.2.2.2.2.2.2.2.2.1)
      have zd : u10 = true ∧ u6 = true := by
        simp [Region.binds] at hd
        simp [hd]
      obtain ⟨rfl, rfl⟩ := zd
      subst z30_
      subst z
      clear h0 hd
      rw [if_pos (by rfl)]
      go_simp
      refine (unhide HF11 W (zu kB)).mono ?_
      rintro e w8 ⟨rfl, hb8⟩
      exact unhide hK _ _ ⟨u0, u1, u2, u3, u4, u5, true, u7, u8, u9, true, true, u12, u13, u14, u15, u16, u17, u18, u19, u20, u21, u22, u23, u24, u25, u26, u27, u28, u29, false, dm, rfl, rfl, bc (zu kB) hb8, zf⟩
    · intro h0 hd K hK
      have z : u12 = false := h0
      have z30_ : u30 = false := znb fun hu => z.symm.trans ((zu kF hu).2.2.2.2.2.2.2.2.2.2.2.2.1)
      have zd : u9 = true ∧ u11 = true ∧ u6 = true := by
        simp [Region.binds] at hd
        simp [hd]
      obtain ⟨rfl, rfl, rfl⟩ := zd
      subst z30_
      subst z
      clear h0 hd
      rw [if_pos (by rfl)]
      go_simp
      exact unhide hK _ _ ⟨u0, u1, u2, u3, u4, u5, true, u7, u8, true, u10, true, true, u13, u14, u15, u16, u17, u18, u19, u20, u21, u22, u23, u24, u25, u26, u27, u28, u29, false, dm, rfl, rfl, zu kB, zf⟩
    · intro h0 hd K hK
      have z : u13 = false := h0
      have z30_ : u30 = false := znb fun hu => z.symm.trans ((zu kF hu).2.2.2.2.2.2.2.2.2.2.2.2.2.1)
      have zd : u6 = true ∧ u12 = true := by
        simp [Region.binds] at hd
        simp [hd]
      obtain ⟨rfl, rfl⟩ := zd
      subst z30_
      subst z
      clear h0 hd
      rw [if_pos (by rfl)]
      go_simp
      exact unhide hK _ _ ⟨u0, u1, u2, u3, u4, u5, true, u7, u8, u9, u10, u11, true, true, u14, u15, u16, u17, u18, u19, u20, u21, u22, u23, u24, u25, u26, u27, u28, u29, false, dm, rfl, rfl, zu kB, zf⟩
    · intro h0 hd K hK
      have z : u14 = false := h0
      have z30_ : u30 = false := znb fun hu => z.symm.trans ((zu kF hu).2.2.2.2.2.2.2.2.2.2.2.2.2.2.1)
      have zd : u13 = true := by
        simp [Region.binds] at hd
        simp [hd]
      obtain ⟨rfl⟩ := zd
      subst z30_
      subst z
      clear h0 hd
      rw [if_pos (by rfl)]
      go_simp
      exact unhide hK _ _ ⟨u0, u1, u2, u3, u4, u5, u6, u7, u8, u9, u10, u11, u12, true, true, u15, u16, u17, u18, u19, u20, u21, u22, u23, u24, u25, u26, u27, u28, u29, false, dm, rfl, rfl, zu kB, zf⟩
    · intro h0 hd K hK
      have z : u15 = false := h0
      have z30_ : u30 = false := znb fun hu => z.symm.trans ((zu kF hu).2.2.2.2.2.2.2.2.2.2.2.2.2.2.2.1)
      have zd : u14 = true := by
        simp [Region.binds] at hd
        simp [hd]
      obtain ⟨rfl⟩ := zd
      subst z30_
      subst z
      clear h0 hd
      rw [if_pos (by rfl)]
      go_simp
      exact unhide hK _ _ ⟨u0, u1, u2, u3, u4, u5, u6, u7, u8, u9, u10, u11, u12, u13, true, true, u16, u17, u18, u19, u20, u21, u22, u23, u24, u25, u26, u27, u28, u29, false, dm, rfl, rfl, zu kB, zf⟩
    · intro h0 hd K hK
      have z : u16 = false := h0
      have z30_ : u30 = false := znb fun hu => z.symm.trans ((zu kF hu).2.2.2.2.2.2.2.2.2.2.2.2.2.2.2.2.1)
      have zd : u15 = true ∧ u14 = true := by
        simp [Region.binds] at hd
        simp [hd]
      obtain ⟨rfl, rfl⟩ := zd
      subst z30_
      subst z
      clear h0 hd
      rw [if_pos (by rfl)]
      go_simp
      exact unhide hK _ _ ⟨u0, u1, u2, u3, u4, u5, u6, u7, u8, u9, u10, u11, u12, u13, true, true, true, u17, u18, u19, u20, u21, u22, u23, u24, u25, u26, u27, u28, u29, false, dm, rfl, rfl, zu kB, zf⟩
    · intro h0 hd K hK
      have z : u17 = false := h0
      have z30_ : u30 = false := znb fun hu => z.symm.trans ((zu kF hu).2.2.2.2.2.2.2.2.2.2.2.2.2.2.2.2.2.1)
      have zd : u16 = true ∧ u14 = true := by
        simp [Region.binds] at hd
        simp [hd]
      obtain ⟨rfl, rfl⟩ := zd
      subst z30_
      subst z
      clear h0 hd
      rw [if_pos (by rfl)]
      have c0 := keep1 (zu kB) (unhide HG2)
      go_simp
      exact unhide hK _ _ ⟨u0, u1, u2, u3, u4, u5, u6, u7, u8, u9, u10, u11, u12, u13, true, u15, true, true, u18, u19, u20, u21, u22, u23, u24, u25, u26, u27, u28, u29, false, dm, rfl, rfl, zu kB, zf⟩
    · intro h0 hd K hK
      have z : u18 = false := h0
      have z30_ : u30 = false := znb fun hu => z.symm.trans ((zu kF hu).2.2.2.2.2.2.2.2.2.2.2.2.2.2.2.2.2.2.1)
      have zd : u14 = true := by
        simp [Region.binds] at hd
        simp [hd]
      obtain ⟨rfl⟩ := zd
      subst z30_
      subst z
      clear h0 hd
      rw [if_pos (by rfl)]
      have c0 := keep1 (zu kB) (unhide HH0)
      have c1 := keep1 (zu kB) (unhide HH1)
      have c2 := keep1 (zu kB) (unhide HH2)
      have c3 := keep1 (zu kB) (unhide HH3)
      have c4 := keep1 (zu kB) (unhide HH4)
      have c5 := keep1 (zu kB) (unhide HH5)
      go_simp
      exact unhide hK _ _ ⟨u0, u1, u2, u3, u4, u5, u6, u7, u8, u9, u10, u11, u12, u13, true, u15, u16, u17, true, u19, u20, u21, u22, u23, u24, u25, u26, u27, u28, u29, false, dm, rfl, rfl, zu kB, zf⟩
    · intro h0 hd K hK
      have z : u19 = false := h0
      have z30_ : u30 = false := znb fun hu => z.symm.trans ((zu kF hu).2.2.2.2.2.2.2.2.2.2.2.2.2.2.2.2.2.2.2.1)
      have zd : u18 = true ∧ u14 = true := by
        simp [Region.binds] at hd
        simp [hd]
      obtain ⟨rfl, rfl⟩ := zd
      subst z30_
      subst z
      clear h0 hd
      rw [if_pos (by rfl)]
      go_simp
      refine (unhide HF19 W (zu kB)).mono ?_
      rintro e w8 ⟨rfl, hb8⟩
      exact unhide hK _ _ ⟨u0, u1, u2, u3, u4, u5, u6, u7, u8, u9, u10, u11, u12, u13, true, u15, u16, u17, true, true, u20, u21, u22, u23, u24, u25, u26, u27, u28, u29, false, dm, rfl, rfl, bc (zu kB) hb8, zf⟩
    · intro h0 hd K hK
      have z : u20 = false := h0
      have z30_ : u30 = false := znb fun hu => z.symm.trans ((zu kF hu).2.2.2.2.2.2.2.2.2.2.2.2.2.2.2.2.2.2.2.2.1)
      have zd : u17 = true ∧ u19 = true ∧ u14 = true := by
        simp [Region.binds] at hd
        simp [hd]
      obtain ⟨rfl, rfl, rfl⟩ := zd
      subst z30_
      subst z
      clear h0 hd
      rw [if_pos (by rfl)]
      go_simp
      exact unhide hK _ _ ⟨u0, u1, u2, u3, u4, u5, u6, u7, u8, u9, u10, u11, u12, u13, true, u15, u16, true, u18, true, true, u21, u22, u23, u24, u25, u26, u27, u28, u29, false, dm, rfl, rfl, zu kB, zf⟩
    · intro h0 hd K hK
      have z : u21 = false := h0
      have z30_ : u30 = false := znb fun hu => z.symm.trans ((zu kF hu).2.2.2.2.2.2.2.2.2.2.2.2.2.2.2.2.2.2.2.2.2.1)
      have zd : u14 = true ∧ u20 = true := by
        simp [Region.binds] at hd
        simp [hd]
      obtain ⟨rfl, rfl⟩ := zd
      subst z30_
      subst z
      clear h0 hd
      rw [if_pos (by rfl)]
      go_simp
      exact unhide hK _ _ ⟨u0, u1, u2, u3, u4, u5, u6, u7, u8, u9, u10, u11, u12, u13, true, u15, u16, u17, u18, u19, true, true, u22, u23, u24, u25, u26, u27, u28, u29, false, dm, rfl, rfl, zu kB, zf⟩
    · intro h0 hd K hK
      have z : u22 = false := h0
      have z30_ : u30 = false := znb fun hu => z.symm.trans ((zu kF hu).2.2.2.2.2.2.2.2.2.2.2.2.2.2.2.2.2.2.2.2.2.2.1)
      have zd : u21 = true := by
        simp [Region.binds] at hd
        simp [hd]
      obtain ⟨rfl⟩ := zd
      subst z30_
      subst z
      clear h0 hd
      rw [if_pos (by rfl)]
      go_simp
      exact unhide hK _ _ ⟨u0, u1, u2, u3, u4, u5, u6, u7, u8, u9, u10, u11, u12, u13, u14, u15, u16, u17, u18, u19, u20, true, true, u23, u24, u25, u26, u27, u28, u29, false, dm, rfl, rfl, zu kB, zf⟩
    · intro h0 hd K hK
      have z : u23 = false := h0
      have z30_ : u30 = false := znb fun hu => z.symm.trans ((zu kF hu).2.2.2.2.2.2.2.2.2.2.2.2.2.2.2.2.2.2.2.2.2.2.2.1)
      have zd : u22 = true := by
        simp [Region.binds] at hd
        simp [hd]
      obtain ⟨rfl⟩ := zd
      subst z30_
      subst z
      clear h0 hd
      rw [if_neg (Bool.eq_false_iff.1 (by rfl))]
      try go_simp
      exact unhide hK _ _ ⟨u0, u1, u2, u3, u4, u5, u6, u7, u8, u9, u10, u11, u12, u13, u14, u15, u16, u17, u18, u19, u20, u21, true, true, u24, u25, u26, u27, u28, u29, false, dm, rfl, rfl, zu kB, zf⟩
    · intro h0 hd K hK
      have z : u24 = false := h0
      have z30_ : u30 = false := znb fun hu => z.symm.trans ((zu kF hu).2.2.2.2.2.2.2.2.2.2.2.2.2.2.2.2.2.2.2.2.2.2.2.2.1)
      have zd : u23 = true ∧ u22 = true := by
        simp [Region.binds] at hd
        simp [hd]
      obtain ⟨rfl, rfl⟩ := zd
      subst z30_
      subst z
      clear h0 hd
      rw [if_neg (Bool.eq_false_iff.1 (by rfl))]
      try go_simp
      exact unhide hK _ _ ⟨u0, u1, u2, u3, u4, u5, u6, u7, u8, u9, u10, u11, u12, u13, u14, u15, u16, u17, u18, u19, u20, u21, true, true, true, u25, u26, u27, u28, u29, false, dm, rfl, rfl, zu kB, zf⟩
    · intro h0 hd K hK
      have z : u25 = false := h0
      have z30_ : u30 = false := znb fun hu => z.symm.trans ((zu kF hu).2.2.2.2.2.2.2.2.2.2.2.2.2.2.2.2.2.2.2.2.2.2.2.2.2.1)
      have zd : u24 = true ∧ u22 = true := by
        simp [Region.binds] at hd
        simp [hd]
      obtain ⟨rfl, rfl⟩ := zd
      subst z30_
      subst z
      clear h0 hd
      rw [if_neg (Bool.eq_false_iff.1 (by rfl))]
      try go_simp
      exact unhide hK _ _ ⟨u0, u1, u2, u3, u4, u5, u6, u7, u8, u9, u10, u11, u12, u13, u14, u15, u16, u17, u18, u19, u20, u21, true, u23, true, true, u26, u27, u28, u29, false, dm, rfl, rfl, zu kB, zf⟩
    · intro h0 hd K hK
      have z : u26 = false := h0
      have z30_ : u30 = false := znb fun hu => z.symm.trans ((zu kF hu).2.2.2.2.2.2.2.2.2.2.2.2.2.2.2.2.2.2.2.2.2.2.2.2.2.2.1)
      have zd : u22 = true := by
        simp [Region.binds] at hd
        simp [hd]
      obtain ⟨rfl⟩ := zd
      subst z30_
      subst z
      clear h0 hd
      rw [if_neg (Bool.eq_false_iff.1 (by rfl))]
      try go_simp
      exact unhide hK _ _ ⟨u0, u1, u2, u3, u4, u5, u6, u7, u8, u9, u10, u11, u12, u13, u14, u15, u16, u17, u18, u19, u20, u21, true, u23, u24, u25, true, u27, u28, u29, false, dm, rfl, rfl, zu kB, zf⟩
    · intro h0 hd K hK
      have z : u27 = false := h0
      have z30_ : u30 = false := znb fun hu => z.symm.trans ((zu kF hu).2.2.2.2.2.2.2.2.2.2.2.2.2.2.2.2.2.2.2.2.2.2.2.2.2.2.2.1)
      have zd : u26 = true ∧ u22 = true := by
        simp [Region.binds] at hd
        simp [hd]
      obtain ⟨rfl, rfl⟩ := zd
      subst z30_
      subst z
      clear h0 hd
      rw [if_neg (Bool.eq_false_iff.1 (by rfl))]
      try go_simp
      exact unhide hK _ _ ⟨u0, u1, u2, u3, u4, u5, u6, u7, u8, u9, u10, u11, u12, u13, u14, u15, u16, u17, u18, u19, u20, u21, true, u23, u24, u25, true, true, u28, u29, false, dm, rfl, rfl, zu kB, zf⟩
    · intro h0 hd K hK
      have z : u28 = false := h0
      have z30_ : u30 = false := znb fun hu => z.symm.trans ((zu kF hu).2.2.2.2.2.2.2.2.2.2.2.2.2.2.2.2.2.2.2.2.2.2.2.2.2.2.2.2.1)
      have zd : u25 = true ∧ u27 = true ∧ u22 = true := by
        simp [Region.binds] at hd
        simp [hd]
      obtain ⟨rfl, rfl, rfl⟩ := zd
      subst z30_
      subst z
      clear h0 hd
      rw [if_neg (Bool.eq_false_iff.1 (by rfl))]
      try go_simp
      exact unhide hK _ _ ⟨u0, u1, u2, u3, u4, u5, u6, u7, u8, u9, u10, u11, u12, u13, u14, u15, u16, u17, u18, u19, u20, u21, true, u23, u24, true, u26, true, true, u29, false, dm, rfl, rfl, zu kB, zf⟩
    · intro h0 hd K hK
      have z : u29 = false := h0
      have z30_ : u30 = false := znb fun hu => z.symm.trans ((zu kF hu).2.2.2.2.2.2.2.2.2.2.2.2.2.2.2.2.2.2.2.2.2.2.2.2.2.2.2.2.2)
      have zd : u22 = true ∧ u28 = true := by
        simp [Region.binds] at hd
        simp [hd]
      obtain ⟨rfl, rfl⟩ := zd
      subst z30_
      subst z
      clear h0 hd
      rw [if_pos (by rfl)]
      go_simp
      exact unhide hK _ _ ⟨u0, u1, u2, u3, u4, u5, u6, u7, u8, u9, u10, u11, u12, u13, u14, u15, u16, u17, u18, u19, u20, u21, true, u23, u24, u25, u26, u27, true, true, false, dm, rfl, rfl, zu kB, zf⟩
    · intro h0 hd K hK
      have z : u30 = false := h0
      have zd0 : u0 = true ∧ u1 = true ∧ u2 = true ∧ u3 = true ∧ u4 = true ∧ u5 = true ∧ u6 = true ∧ u7 = true ∧ u8 = true ∧ u9 = true ∧ u10 = true ∧ u11 = true ∧ u12 = true ∧ u13 = true ∧ u14 = true ∧ u15 = true ∧ u16 = true ∧ u17 = true ∧ u18 = true ∧ u19 = true ∧ u20 = true ∧ u21 = true ∧ u22 = true ∧ u23 = true ∧ u24 = true ∧ u25 = true ∧ u26 = true ∧ u27 = true ∧ u28 = true ∧ u29 = true := by
        simp [Region.binds] at hd
        simp [hd]
      have zd : u0 = true ∧ u1 = true ∧ u2 = true ∧ u3 = true ∧ u4 = true ∧ u5 = true ∧ u6 = true ∧ u7 = true ∧ u8 = true ∧ u9 = true ∧ u10 = true ∧ u11 = true ∧ u12 = true ∧ u13 = true ∧ u14 = true ∧ u15 = true ∧ u16 = true ∧ u17 = true ∧ u18 = true ∧ u19 = true ∧ u20 = true ∧ u21 = true ∧ u22 = true ∧ u23 = true ∧ u24 = true ∧ u25 = true ∧ u26 = true ∧ u27 = true ∧ u28 = true ∧ u29 = true := ⟨zd0.1, zd0.2.1, zd0.2.2.1, zd0.2.2.2.1, zd0.2.2.2.2.1, zd0.2.2.2.2.2.1, zd0.2.2.2.2.2.2.1, zd0.2.2.2.2.2.2.2.1, zd0.2.2.2.2.2.2.2.2.1, zd0.2.2.2.2.2.2.2.2.2.1, zd0.2.2.2.2.2.2.2.2.2.2.1, zd0.2.2.2.2.2.2.2.2.2.2.2.1, zd0.2.2.2.2.2.2.2.2.2.2.2.2.1, zd0.2.2.2.2.2.2.2.2.2.2.2.2.2.1, zd0.2.2.2.2.2.2.2.2.2.2.2.2.2.2.1, zd0.2.2.2.2.2.2.2.2.2.2.2.2.2.2.2.1, zd0.2.2.2.2.2.2.2.2.2.2.2.2.2.2.2.2.1, zd0.2.2.2.2.2.2.2.2.2.2.2.2.2.2.2.2.2.1, zd0.2.2.2.2.2.2.2.2.2.2.2.2.2.2.2.2.2.2.1, zd0.2.2.2.2.2.2.2.2.2.2.2.2.2.2.2.2.2.2.2.1, zd0.2.2.2.2.2.2.2.2.2.2.2.2.2.2.2.2.2.2.2.2.1, zd0.2.2.2.2.2.2.2.2.2.2.2.2.2.2.2.2.2.2.2.2.2.1, zd0.2.2.2.2.2.2.2.2.2.2.2.2.2.2.2.2.2.2.2.2.2.2.1, zd0.2.2.2.2.2.2.2.2.2.2.2.2.2.2.2.2.2.2.2.2.2.2.2.1, zd0.2.2.2.2.2.2.2.2.2.2.2.2.2.2.2.2.2.2.2.2.2.2.2.2.1, zd0.2.2.2.2.2.2.2.2.2.2.2.2.2.2.2.2.2.2.2.2.2.2.2.2.2.1, zd0.2.2.2.2.2.2.2.2.2.2.2.2.2.2.2.2.2.2.2.2.2.2.2.2.2.2.1, zd0.2.2.2.2.2.2.2.2.2.2.2.2.2.2.2.2.2.2.2.2.2.2.2.2.2.2.2.1, zd0.2.2.2.2.2.2.2.2.2.2.2.2.2.2.2.2.2.2.2.2.2.2.2.2.2.2.2.2.1, zd0.2.2.2.2.2.2.2.2.2.2.2.2.2.2.2.2.2.2.2.2.2.2.2.2.2.2.2.2.2⟩
      obtain ⟨rfl, rfl, rfl, rfl, rfl, rfl, rfl, rfl, rfl, rfl, rfl, rfl, rfl, rfl, rfl, rfl, rfl, rfl, rfl, rfl, rfl, rfl, rfl, rfl, rfl, rfl, rfl, rfl, rfl, rfl⟩ := zd
      subst z
      clear h0 hd
      rw [if_pos (by rfl)]
      go_simp
      exact unhide hK _ _ ⟨true, true, true, true, true, true, true, true, true, true, true, true, true, true, true, true, true, true, true, true, true, true, true, true, true, true, true, true, true, true, true, dm, rfl, rfl, zu kB, (fun _ => ⟨rfl, rfl, rfl, rfl, rfl, rfl, rfl, rfl, rfl, rfl, rfl, rfl, rfl, rfl, rfl, rfl, rfl, rfl, rfl, rfl, rfl, rfl, rfl, rfl, rfl, rfl, rfl, rfl, rfl, rfl⟩)⟩
  case hend =>
    intro Lb A W hI
    obtain ⟨u0, u1, u2, u3, u4, hI⟩ := hI
    obtain ⟨u5, u6, u7, u8, u9, hI⟩ := hI
    obtain ⟨u10, u11, u12, u13, u14, hI⟩ := hI
    obtain ⟨u15, u16, u17, u18, u19, hI⟩ := hI
    obtain ⟨u20, u21, u22, u23, u24, hI⟩ := hI
    obtain ⟨u25, u26, u27, u28, u29, hI⟩ := hI
    obtain ⟨u30, dm, hI⟩ := hI
    obtain ⟨hLb, hI⟩ := hI
    obtain ⟨hA, hI⟩ := hI
    obtain ⟨kB, hI⟩ := hI
    have kF := hI
    clear hI
    subst hLb
    subst hA
    intro hL
    have hl : u0 = true ∧ u1 = true ∧ u2 = true ∧ u3 = true ∧ u4 = true ∧ u5 = true ∧ u6 = true ∧ u7 = true ∧ u8 = true ∧ u9 = true ∧ u10 = true ∧ u11 = true ∧ u12 = true ∧ u13 = true ∧ u14 = true ∧ u15 = true ∧ u16 = true ∧ u17 = true ∧ u18 = true ∧ u19 = true ∧ u20 = true ∧ u21 = true ∧ u22 = true ∧ u23 = true ∧ u24 = true ∧ u25 = true ∧ u26 = true ∧ u27 = true ∧ u28 = true ∧ u29 = true ∧ u30 = true := by
      have h2 := congrArg Array.toList hL
      simpa [List.replicate] using h2
    obtain ⟨rfl, rfl, rfl, rfl, rfl, rfl, rfl, rfl, rfl, rfl, rfl, rfl, rfl, rfl, rfl, rfl, rfl, rfl, rfl, rfl, rfl, rfl, rfl, rfl, rfl, rfl, rfl, rfl, rfl, rfl, rfl⟩ := hl
    exact unhide HQ  W kB

set_option maxHeartbeats 4000000 in
set_option maxRecDepth 100000 in
theorem ov_d {s0 s1 s4 s5 s6 s7 s8 s9 s10 s11 s12 s13 s14 s15 s16 s17 s18 s19 s20 s21 s22 s23 s24 s25 s26 s27 s28 s29 s30 s31 s32 s33 s34 : Value} {g hh : Nat} {ma xa ya wa ha mb xb yb wb hb R P Q S : Int} {ta tb : Bool} {V : World} {K_ : Act → World → Prop} (h1 : xa < R) (h2 : xb < P) (h3 : ya < Q)
    (HG0 : Hid (V.cell? ⟨g, 0, none⟩ = some (.int .i64 (ma)))) (HG1 : Hid (V.cell? ⟨g, 1, none⟩ = some (.int .i64 (xa)))) (HG2 : Hid (V.cell? ⟨g, 2, none⟩ = some (.int .i64 (ya)))) (HG3 : Hid (V.cell? ⟨g, 3, none⟩ = some (.bool (ta)))) (HG4 : Hid (V.cell? ⟨g, 4, none⟩ = some (.int .i64 (wa)))) (HG5 : Hid (V.cell? ⟨g, 5, none⟩ = some (.int .i64 (ha)))) (HH0 : Hid (V.cell? ⟨hh, 0, none⟩ = some (.int .i64 (mb)))) (HH1 : Hid (V.cell? ⟨hh, 1, none⟩ = some (.int .i64 (xb)))) (HH2 : Hid (V.cell? ⟨hh, 2, none⟩ = some (.int .i64 (yb)))) (HH3 : Hid (V.cell? ⟨hh, 3, none⟩ = some (.bool (tb)))) (HH4 : Hid (V.cell? ⟨hh, 4, none⟩ = some (.int .i64 (wb)))) (HH5 : Hid (V.cell? ⟨hh, 5, none⟩ = some (.int .i64 (hb)))) 
    (HF4 : Hid (∀ Xw, Below V.heap.size V Xw → Calls Try.prog 43 #[.agg #[.int .i64 (mb), .int .i64 (xb), .int .i64 (yb), .bool (tb), .int .i64 (wb), .int .i64 (hb)]] Xw fun e w' => e = .returned (.int .i64 (R)) ∧ Below Xw.heap.size Xw w'))
    (HF11 : Hid (∀ Xw, Below V.heap.size V Xw → Calls Try.prog 43 #[.agg #[.int .i64 (ma), .int .i64 (xa), .int .i64 (ya), .bool (ta), .int .i64 (wa), .int .i64 (ha)]] Xw fun e w' => e = .returned (.int .i64 (P)) ∧ Below Xw.heap.size Xw w'))
    (HF19 : Hid (∀ Xw, Below V.heap.size V Xw → Calls Try.prog 45 #[.agg #[.int .i64 (mb), .int .i64 (xb), .int .i64 (yb), .bool (tb), .int .i64 (wb), .int .i64 (hb)]] Xw fun e w' => e = .returned (.int .i64 (Q)) ∧ Below Xw.heap.size Xw w'))
    (HF27 : Hid (∀ Xw, Below V.heap.size V Xw → Calls Try.prog 45 #[.agg #[.int .i64 (ma), .int .i64 (xa), .int .i64 (ya), .bool (ta), .int .i64 (wa), .int .i64 (ha)]] Xw fun e w' => e = .returned (.int .i64 (S)) ∧ Below Xw.heap.size Xw w'))
    (hQ : ∀ (W1 : World), Below V.heap.size V W1 → K_ { tmps := #[s0, s1, .pointer (some ⟨g, 0, none⟩), .pointer (some ⟨hh, 0, none⟩), .bool (decide (yb < S)), .pointer (some ⟨g, 0, none⟩), .pointer (some ⟨g, 1, none⟩), .int .i64 (xa), .agg #[.int .i64 (mb), .int .i64 (xb), .int .i64 (yb), .bool (tb), .int .i64 (wb), .int .i64 (hb)], .int .i64 (R), .bool (true), .bool (true), .pointer (some ⟨hh, 0, none⟩), .pointer (some ⟨hh, 1, none⟩), .int .i64 (xb), .agg #[.int .i64 (ma), .int .i64 (xa), .int .i64 (ya), .bool (ta), .int .i64 (wa), .int .i64 (ha)], .int .i64 (P), .bool (true), .bool (true), .bool (true), .pointer (some ⟨g, 0, none⟩), .pointer (some ⟨g, 2, none⟩), .int .i64 (ya), .agg #[.int .i64 (mb), .int .i64 (xb), .int .i64 (yb), .bool (tb), .int .i64 (wb), .int .i64 (hb)], .int .i64 (Q), .bool (true), .bool (true), .bool (true), .pointer (some ⟨hh, 0, none⟩), .pointer (some ⟨hh, 2, none⟩), .int .i64 (yb), .agg #[.int .i64 (ma), .int .i64 (xa), .int .i64 (ya), .bool (ta), .int .i64 (wa), .int .i64 (ha)], .int .i64 (S), .bool (decide (yb < S)), .bool (decide (yb < S))], defers := [] } W1) :
    Go.Code.wp Try.prog (rg58 1) (Only K_) { tmps := #[s0, s1, .pointer (some ⟨g, 0, none⟩), .pointer (some ⟨hh, 0, none⟩), s4, s5, s6, s7, s8, s9, s10, s11, s12, s13, s14, s15, s16, s17, s18, s19, s20, s21, s22, s23, s24, s25, s26, s27, s28, s29, s30, s31, s32, s33, s34], defers := [] } V := by
  have HQ := hide hQ
  clear hQ
  have tm1 : decide (xa < R) = true := decide_eq_true h1
  have tm2 : decide (xb < P) = true := decide_eq_true h2
  have tm3 : decide (ya < Q) = true := decide_eq_true h3
  conv => arg 2; whnf
  refine wp_region_inv2 (fun Lb A W => ∃ (u0 u1 u2 u3 u4 u5 u6 u7 u8 u9 u10 u11 u12 u13 u14 u15 u16 u17 u18 u19 u20 u21 u22 u23 u24 u25 u26 u27 u28 u29 u30 : Bool) (dm : Nat), Lb = #[u0, u1, u2, u3, u4, u5, u6, u7, u8, u9, u10, u11, u12, u13, u14, u15, u16, u17, u18, u19, u20, u21, u22, u23, u24, u25, u26, u27, u28, u29, u30] ∧ A = ({ tmps := #[s0, s1, .pointer (some ⟨g, 0, none⟩), .pointer (some ⟨hh, 0, none⟩), (bif u30 then .bool (decide (yb < S)) else s4), (bif u0 then .pointer (some ⟨g, 0, none⟩) else s5), (bif u1 then .pointer (some ⟨g, 1, none⟩) else s6), (bif u2 then .int .i64 (xa) else s7), (bif u3 then .agg #[.int .i64 (mb), .int .i64 (xb), .int .i64 (yb), .bool (tb), .int .i64 (wb), .int .i64 (hb)] else s8), (bif u4 then .int .i64 (R) else s9), (bif u5 then .bool (true) else s10), (bif u6 then .bool (true) else s11), (bif u7 then .pointer (some ⟨hh, 0, none⟩) else s12), (bif u8 then .pointer (some ⟨hh, 1, none⟩) else s13), (bif u9 then .int .i64 (xb) else s14), (bif u10 then .agg #[.int .i64 (ma), .int .i64 (xa), .int .i64 (ya), .bool (ta), .int .i64 (wa), .int .i64 (ha)] else s15), (bif u11 then .int .i64 (P) else s16), (bif u12 then .bool (true) else s17), (bif u13 then .bool (true) else s18), (bif u14 then .bool (true) else s19), (bif u15 then .pointer (some ⟨g, 0, none⟩) else s20), (bif u16 then .pointer (some ⟨g, 2, none⟩) else s21), (bif u17 then .int .i64 (ya) else s22), (bif u18 then .agg #[.int .i64 (mb), .int .i64 (xb), .int .i64 (yb), .bool (tb), .int .i64 (wb), .int .i64 (hb)] else s23), (bif u19 then .int .i64 (Q) else s24), (bif u20 then .bool (true) else s25), (bif u21 then .bool (true) else s26), (bif u22 then .bool (true) else s27), (bif u23 then .pointer (some ⟨hh, 0, none⟩) else s28), (bif u24 then .pointer (some ⟨hh, 2, none⟩) else s29), (bif u25 then .int .i64 (yb) else s30), (bif u26 then .agg #[.int .i64 (ma), .int .i64 (xa), .int .i64 (ya), .bool (ta), .int .i64 (wa), .int .i64 (ha)] else s31), (bif u27 then .int .i64 (S) else s32), (bif u28 then .bool (decide (yb < S)) else s33), (bif u29 then .bool (decide (yb < S)) else s34)], defers := [] } : Act) ∧ Below V.heap.size V W ∧ (u30 = true → u0 = true ∧ u1 = true ∧ u2 = true ∧ u3 = true ∧ u4 = true ∧ u5 = true ∧ u6 = true ∧ u7 = true ∧ u8 = true ∧ u9 = true ∧ u10 = true ∧ u11 = true ∧ u12 = true ∧ u13 = true ∧ u14 = true ∧ u15 = true ∧ u16 = true ∧ u17 = true ∧ u18 = true ∧ u19 = true ∧ u20 = true ∧ u21 = true ∧ u22 = true ∧ u23 = true ∧ u24 = true ∧ u25 = true ∧ u26 = true ∧ u27 = true ∧ u28 = true ∧ u29 = true)) (by kernel_rfl) (by kernel_rfl) ?h0 ?hstep ?hend
  case h0 =>
    exact ⟨false, false, false, false, false, false, false, false, false, false, false, false, false, false, false, false, false, false, false, false, false, false, false, false, false, false, false, false, false, false, false, 0, rfl, rfl, Below.drew (Below.refl _ _), zf⟩
  case hstep =>
    intro Lb A W hI
    obtain ⟨u0, u1, u2, u3, u4, hI⟩ := hI
    obtain ⟨u5, u6, u7, u8, u9, hI⟩ := hI
    obtain ⟨u10, u11, u12, u13, u14, hI⟩ := hI
    obtain ⟨u15, u16, u17, u18, u19, hI⟩ := hI
    obtain ⟨u20, u21, u22, u23, u24, hI⟩ := hI
    obtain ⟨u25, u26, u27, u28, u29, hI⟩ := hI
    obtain ⟨u30, dm, hI⟩ := hI
    obtain ⟨hLb, hI⟩ := hI
    obtain ⟨hA, hI⟩ := hI
    obtain ⟨kB, hI⟩ := hI
    have kF := hI
    clear hI
    subst hLb
    subst hA
    replace kB := hide kB
    replace kF := hide kF
    refine ⟨?_, ?_, ?_, ?_, ?_, ?_, ?_, ?_, ?_, ?_, ?_, ?_, ?_, ?_, ?_, ?_, ?_, ?_, ?_, ?_, ?_, ?_, ?_, ?_, ?_, ?_, ?_, ?_, ?_, ?_, ?_, trivial⟩
    · intro h0 hd K hK
      have z : u0 = false := h0
      have z30_ : u30 = false := znb fun hu => z.symm.trans ((zu kF hu).1)
      subst z30_
      subst z
      clear h0 hd
      rw [if_pos (by rfl)]
      go_simp
      exact unhide hK _ _ ⟨true, u1, u2, u3, u4, u5, u6, u7, u8, u9, u10, u11, u12, u13, u14, u15, u16, u17, u18, u19, u20, u21, u22, u23, u24, u25, u26, u27, u28, u29, false, dm, rfl, rfl, zu kB, zf⟩
    · intro h0 hd K hK
      have z : u1 = false := h0
      have z30_ : u30 = false := znb fun hu => z.symm.trans ((zu kF hu).2.1)
      have zd : u0 = true := by
        simp [Region.binds] at hd
        simp [hd]
      obtain ⟨rfl⟩ := zd
      subst z30_
      subst z
      clear h0 hd
      rw [if_pos (by rfl)]
      go_simp
      exact unhide hK _ _ ⟨true, true, u2, u3, u4, u5, u6, u7, u8, u9, u10, u11, u12, u13, u14, u15, u16, u17, u18, u19, u20, u21, u22, u23, u24, u25, u26, u27, u28, u29, false, dm, rfl, rfl, zu kB, zf⟩
    · intro h0 hd K hK
      have z : u2 = false := h0
      have z30_ : u30 = false := znb fun hu => z.symm.trans ((zu kF hu).2.2.1)
      have zd : u1 = true := by
        simp [Region.binds] at hd
        simp [hd]
      obtain ⟨rfl⟩ := zd
      subst z30_
      subst z
      clear h0 hd
      rw [if_pos (by rfl)]
      have c0 := keep1 (zu kB) (unhide HG1)
      go_simp
      exact unhide hK _ _ ⟨u0, true, true, u3, u4, u5, u6, u7, u8, u9, u10, u11, u12, u13, u14, u15, u16, u17, u18, u19, u20, u21, u22, u23, u24, u25, u26, u27, u28, u29, false, dm, rfl, rfl, zu kB, zf⟩
    · intro h0 hd K hK
      have z : u3 = false := h0
      have z30_ : u30 = false := znb fun hu => z.symm.trans ((zu kF hu).2.2.2.1)
      subst z30_
      subst z
      clear h0 hd
      rw [if_pos (by rfl)]
      have c0 := keep1 (zu kB) (unhide HH0)
      have c1 := keep1 (zu kB) (unhide HH1)
      have c2 := keep1 (zu kB) (unhide HH2)
      have c3 := keep1 (zu kB) (unhide HH3)
      have c4 := keep1 (zu kB) (unhide HH4)
      have c5 := keep1 (zu kB) (unhide HH5)
      go_simp
      exact unhide hK _ _ ⟨u0, u1, u2, true, u4, u5, u6, u7, u8, u9, u10, u11, u12, u13, u14, u15, u16, u17, u18, u19, u20, u21, u22, u23, u24, u25, u26, u27, u28, u29, false, dm, rfl, rfl, zu kB, zf⟩
    · intro h0 hd K hK
      have z : u4 = false := h0
      have z30_ : u30 = false := znb fun hu => z.symm.trans ((zu kF hu).2.2.2.2.1)
      have zd : u3 = true := by
        simp [Region.binds] at hd
        simp [hd]
      obtain ⟨rfl⟩ := zd
      subst z30_
      subst z
      clear h0 hd
      rw [if_pos (by rfl)]
      go_simp
      refine (unhide HF4 W (zu kB)).mono ?_
      rintro e w8 ⟨rfl, hb8⟩
      exact unhide hK _ _ ⟨u0, u1, u2, true, true, u5, u6, u7, u8, u9, u10, u11, u12, u13, u14, u15, u16, u17, u18, u19, u20, u21, u22, u23, u24, u25, u26, u27, u28, u29, false, dm, rfl, rfl, bc (zu kB) hb8, zf⟩
    · intro h0 hd K hK
      have z : u5 = false := h0
      have z30_ : u30 = false := znb fun hu => z.symm.trans ((zu kF hu).2.2.2.2.2.1)
      have zd : u2 = true ∧ u4 = true := by
        simp [Region.binds] at hd
        simp [hd]
      obtain ⟨rfl, rfl⟩ := zd
      subst z30_
      subst z
      clear h0 hd
      rw [if_pos (by rfl)]
      go_simp
      exact unhide hK _ _ ⟨u0, u1, true, u3, true, true, u6, u7, u8, u9, u10, u11, u12, u13, u14, u15, u16, u17, u18, u19, u20, u21, u22, u23, u24, u25, u26, u27, u28, u29, false, dm, rfl, rfl, zu kB, zf⟩
    · intro h0 hd K hK
      have z : u6 = false := h0
      have z30_ : u30 = false := znb fun hu => z.symm.trans ((zu kF hu).2.2.2.2.2.2.1)
      have zd : u5 = true := by
        simp [Region.binds] at hd
        simp [hd]
      obtain ⟨rfl⟩ := zd
      subst z30_
      subst z
      clear h0 hd
      rw [if_pos (by rfl)]
      go_simp
      exact unhide hK _ _ ⟨u0, u1, u2, u3, u4, true, true, u7, u8, u9, u10, u11, u12, u13, u14, u15, u16, u17, u18, u19, u20, u21, u22, u23, u24, u25, u26, u27, u28, u29, false, dm, rfl, rfl, zu kB, zf⟩
    · intro h0 hd K hK
      have z : u7 = false := h0
      have z30_ : u30 = false := znb fun hu => z.symm.trans ((zu kF hu).2.2.2.2.2.2.2.1)
      have zd : u6 = true := by
        simp [Region.binds] at hd
        simp [hd]
      obtain ⟨rfl⟩ := zd
      subst z30_
      subst z
      clear h0 hd
      rw [if_pos (by rfl)]
      go_simp
      exact unhide hK _ _ ⟨u0, u1, u2, u3, u4, u5, true, true, u8, u9, u10, u11, u12, u13, u14, u15, u16, u17, u18, u19, u20, u21, u22, u23, u24, u25, u26, u27, u28, u29, false, dm, rfl, rfl, zu kB, zf⟩
    · intro h0 hd K hK
      have z : u8 = false := h0
      have z30_ : u30 = false := znb fun hu => z.symm.trans ((zu kF hu).2.2.2.2.2.2.2.2.1)
      have zd : u7 = true ∧ u6 = true := by
        simp [Region.binds] at hd
        simp [hd]
      obtain ⟨rfl, rfl⟩ := zd
      subst z30_
      subst z
      clear h0 hd
      rw [if_pos (by rfl)]
      go_simp
      exact unhide hK _ _ ⟨u0, u1, u2, u3, u4, u5, true, true, true, u9, u10, u11, u12, u13, u14, u15, u16, u17, u18, u19, u20, u21, u22, u23, u24, u25, u26, u27, u28, u29, false, dm, rfl, rfl, zu kB, zf⟩
    · intro h0 hd K hK
      have z : u9 = false := h0
      have z30_ : u30 = false := znb fun hu => z.symm.trans ((zu kF hu).2.2.2.2.2.2.2.2.2.1)
      have zd : u8 = true ∧ u6 = true := by
        simp [Region.binds] at hd
        simp [hd]
      obtain ⟨rfl, rfl⟩ := zd
      subst z30_
      subst z
      clear h0 hd
      rw [if_pos (by rfl)]
      have c0 := keep1 (zu kB) (unhide HH1)
      go_simp
      exact unhide hK _ _ ⟨u0, u1, u2, u3, u4, u5, true, u7, true, true, u10, u11, u12, u13, u14, u15, u16, u17, u18, u19, u20, u21, u22, u23, u24, u25, u26, u27, u28, u29, false, dm, rfl, rfl, zu kB, zf⟩
    · intro h0 hd K hK
      have z : u10 = false := h0
      have z30_ : u30 = false := znb fun hu => z.symm.trans ((zu kF hu).2.2.2.2.2.2.2.2.2.2.1)
      have zd : u6 = true := by
        simp [Region.binds] at hd
        simp [hd]
      obtain ⟨rfl⟩ := zd
      subst z30_
      subst z
      clear h0 hd
      rw [if_pos (by rfl)]
      have c0 := keep1 (zu kB) (unhide HG0)
      have c1 := keep1 (zu kB) (unhide HG1)
      have c2 := keep1 (zu kB) (unhide HG2)
      have c3 := keep1 (zu kB) (unhide HG3)
      have c4 := keep1 (zu kB) (unhide HG4)
      have c5 := keep1 (zu kB) (unhide HG5)
      go_simp
      exact unhide hK _ _ ⟨u0, u1, u2, u3, u4, u5, true, u7, u8, u9, true, u11, u12, u13, u14, u15, u16, u17, u18, u19, u20, u21, u22, u23, u24, u25, u26, u27, u28, u29, false, dm, rfl, rfl, zu kB, zf⟩
    · intro h0 hd K hK
      have z : u11 = false := h0
      have z30_ : u30 = false := znb fun hu => z.symm.trans ((zu kF hu).2.2.2.2.2.2.2.2.2.2.2.1)
      have zd : u10 = true ∧ u6 = true := by
        simp [Region.binds] at hd
        simp [hd]
      obtain ⟨rfl, rfl⟩ := zd
      subst z30_
      subst z
      clear h0 hd
      rw [if_pos (by rfl)]
      go_simp
      refine (unhide HF11 W (zu kB)).mono ?_
      rintro e w8 ⟨rfl, hb8⟩
      exact unhide hK _ _ ⟨u0, u1, u2, u3, u4, u5, true, u7, u8, u9, true, true, u12, u13, u14, u15, u16, u17, u18, u19, u20, u21, u22, u23, u24, u25, u26, u27, u28, u29, false, dm, rfl, rfl, bc (zu kB) hb8, zf⟩
    · intro h0 hd K hK
      have z : u12 = false := h0
      have z30_ : u30 = false := znb fun hu => z.symm.trans ((zu kF hu).2.2.2.2.2.2.2.2.2.2.2.2.1)
      have zd : u9 = true ∧ u11 = true ∧ u6 = true := by
        simp [Region.binds] at hd
        simp [hd]
      obtain ⟨rfl, rfl, rfl⟩ := zd
      subst z30_
      subst z
      clear h0 hd
      rw [if_pos (by rfl)]
      go_simp
      exact unhide hK _ _ ⟨u0, u1, u2, u3, u4, u5, true, u7, u8, true, u10, true, true, u13, u14, u15, u16, u17, u18, u19, u20, u21, u22, u23, u24, u25, u26, u27, u28, u29, false, dm, rfl, rfl, zu kB, zf⟩
    · intro h0 hd K hK
      have z : u13 = false := h0
      have z30_ : u30 = false := znb fun hu => z.symm.trans ((zu kF hu).2.2.2.2.2.2.2.2.2.2.2.2.2.1)
      have zd : u6 = true ∧ u12 = true := by
        simp [Region.binds] at hd
        simp [hd]
      obtain ⟨rfl, rfl⟩ := zd
      subst z30_
      subst z
      clear h0 hd
      rw [if_pos (by rfl)]
      go_simp
      exact unhide hK _ _ ⟨u0, u1, u2, u3, u4, u5, true, u7, u8, u9, u10, u11, true, true, u14, u15, u16, u17, u18, u19, u20, u21, u22, u23, u24, u25, u26, u27, u28, u29, false, dm, rfl, rfl, zu kB, zf⟩
    · intro h0 hd K hK
      have z : u14 = false := h0
      have z30_ : u30 = false := znb fun hu => z.symm.trans ((zu kF hu).2.2.2.2.2.2.2.2.2.2.2.2.2.2.1)
      have zd : u13 = true := by
        simp [Region.binds] at hd
        simp [hd]
      obtain ⟨rfl⟩ := zd
      subst z30_
      subst z
      clear h0 hd
      rw [if_pos (by rfl)]
      go_simp
      exact unhide hK _ _ ⟨u0, u1, u2, u3, u4, u5, u6, u7, u8, u9, u10, u11, u12, true, true, u15, u16, u17, u18, u19, u20, u21, u22, u23, u24, u25, u26, u27, u28, u29, false, dm, rfl, rfl, zu kB, zf⟩
    · intro h0 hd K hK
      have z : u15 = false := h0
      have z30_ : u30 = false := znb fun hu => z.symm.trans ((zu kF hu).2.2.2.2.2.2.2.2.2.2.2.2.2.2.2.1)
      have zd : u14 = true := by
        simp [Region.binds] at hd
        simp [hd]
      obtain ⟨rfl⟩ := zd
      subst z30_
      subst z
      clear h0 hd
      rw [if_pos (by rfl)]
      go_simp
      exact unhide hK _ _ ⟨u0, u1, u2, u3, u4, u5, u6, u7, u8, u9, u10, u11, u12, u13, true, true, u16, u17, u18, u19, u20, u21, u22, u23, u24, u25, u26, u27, u28, u29, false, dm, rfl, rfl, zu kB, zf⟩
    · intro h0 hd K hK
      have z : u16 = false := h0
      have z30_ : u30 = false := znb fun hu => z.symm.trans ((zu kF hu).2.2.2.2.2.2.2.2.2.2.2.2.2.2.2.2.1)
      have zd : u15 = true ∧ u14 = true := by
        simp [Region.binds] at hd
        simp [hd]
      obtain ⟨rfl, rfl⟩ := zd
      subst z30_
      subst z
      clear h0 hd
      rw [if_pos (by rfl)]
      go_simp
      exact unhide hK _ _ ⟨u0, u1, u2, u3, u4, u5, u6, u7, u8, u9, u10, u11, u12, u13, true, true, true, u17, u18, u19, u20, u21, u22, u23, u24, u25, u26, u27, u28, u29, false, dm, rfl, rfl, zu kB, zf⟩
    · intro h0 hd K hK
      have z : u17 = false := h0
      have z30_ : u30 = false := znb fun hu => z.symm.trans ((zu kF hu).2.2.2.2.2.2.2.2.2.2.2.2.2.2.2.2.2.1)
      have zd : u16 = true ∧ u14 = true := by
        simp [Region.binds] at hd
        simp [hd]
      obtain ⟨rfl, rfl⟩ := zd
      subst z30_
      subst z
      clear h0 hd
      rw [if_pos (by rfl)]
      have c0 := keep1 (zu kB) (unhide HG2)
      go_simp
      exact unhide hK _ _ ⟨u0, u1, u2, u3, u4, u5, u6, u7, u8, u9, u10, u11, u12, u13, true, u15, true, true, u18, u19, u20, u21, u22, u23, u24, u25, u26, u27, u28, u29, false, dm, rfl, rfl, zu kB, zf⟩
    · intro h0 hd K hK
      have z : u18 = false := h0
      have z30_ : u30 = false := znb fun hu => z.symm.trans ((zu kF hu).2.2.2.2.2.2.2.2.2.2.2.2.2.2.2.2.2.2.1)
      have zd : u14 = true := by
        simp [Region.binds] at hd
        simp [hd]
      obtain ⟨rfl⟩ := zd
      subst z30_
      subst z
      clear h0 hd
      rw [if_pos (by rfl)]
      have c0 := keep1 (zu kB) (unhide HH0)
      have c1 := keep1 (zu kB) (unhide HH1)
      have c2 := keep1 (zu kB) (unhide HH2)
      have c3 := keep1 (zu kB) (unhide HH3)
      have c4 := keep1 (zu kB) (unhide HH4)
      have c5 := keep1 (zu kB) (unhide HH5)
      go_simp
      exact unhide hK _ _ ⟨u0, u1, u2, u3, u4, u5, u6, u7, u8, u9, u10, u11, u12, u13, true, u15, u16, u17, true, u19, u20, u21, u22, u23, u24, u25, u26, u27, u28, u29, false, dm, rfl, rfl, zu kB, zf⟩
    · intro h0 hd K hK
      have z : u19 = false := h0
      have z30_ : u30 = false := znb fun hu => z.symm.trans ((zu kF hu).2.2.2.2.2.2.2.2.2.2.2.2.2.2.2.2.2.2.2.1)
      have zd : u18 = true ∧ u14 = true := by
        simp [Region.binds] at hd
        simp [hd]
      obtain ⟨rfl, rfl⟩ := zd
      subst z30_
      subst z
      clear h0 hd
      rw [if_pos (by rfl)]
      go_simp
      refine (unhide HF19 W (zu kB)).mono ?_
      rintro e w8 ⟨rfl, hb8⟩
      exact unhide hK _ _ ⟨u0, u1, u2, u3, u4, u5, u6, u7, u8, u9, u10, u11, u12, u13, true, u15, u16, u17, true, true, u20, u21, u22, u23, u24, u25, u26, u27, u28, u29, false, dm, rfl, rfl, bc (zu kB) hb8, zf⟩
    · intro h0 hd K hK
      have z : u20 = false := h0
      have z30_ : u30 = false := znb fun hu => z.symm.trans ((zu kF hu).2.2.2.2.2.2.2.2.2.2.2.2.2.2.2.2.2.2.2.2.1)
      have zd : u17 = true ∧ u19 = true ∧ u14 = true := by
        simp [Region.binds] at hd
        simp [hd]
      obtain ⟨rfl, rfl, rfl⟩ := zd
      subst z30_
      subst z
      clear h0 hd
      rw [if_pos (by rfl)]
      go_simp
      exact unhide hK _ _ ⟨u0, u1, u2, u3, u4, u5, u6, u7, u8, u9, u10, u11, u12, u13, true, u15, u16, true, u18, true, true, u21, u22, u23, u24, u25, u26, u27, u28, u29, false, dm, rfl, rfl, zu kB, zf⟩
    · intro h0 hd K hK
      have z : u21 = false := h0
      have z30_ : u30 = false := znb fun hu => z.symm.trans ((zu kF hu).2.2.2.2.2.2.2.2.2.2.2.2.2.2.2.2.2.2.2.2.2.1)
      have zd : u14 = true ∧ u20 = true := by
        simp [Region.binds] at hd
        simp [hd]
      obtain ⟨rfl, rfl⟩ := zd
      subst z30_
      subst z
      clear h0 hd
      rw [if_pos (by rfl)]
      go_simp
      exact unhide hK _ _ ⟨u0, u1, u2, u3, u4, u5, u6, u7, u8, u9, u10, u11, u12, u13, true, u15, u16, u17, u18, u19, true, true, u22, u23, u24, u25, u26, u27, u28, u29, false, dm, rfl, rfl, zu kB, zf⟩
    · intro h0 hd K hK
      have z : u22 = false := h0
      have z30_ : u30 = false := znb fun hu => z.symm.trans ((zu kF hu).2.2.2.2.2.2.2.2.2.2.2.2.2.2.2.2.2.2.2.2.2.2.1)
      have zd : u21 = true := by
        simp [Region.binds] at hd
        simp [hd]
      obtain ⟨rfl⟩ := zd
      subst z30_
      subst z
      clear h0 hd
      rw [if_pos (by rfl)]
      go_simp
      exact unhide hK _ _ ⟨u0, u1, u2, u3, u4, u5, u6, u7, u8, u9, u10, u11, u12, u13, u14, u15, u16, u17, u18, u19, u20, true, true, u23, u24, u25, u26, u27, u28, u29, false, dm, rfl, rfl, zu kB, zf⟩
    · intro h0 hd K hK
      have z : u23 = false := h0
      have z30_ : u30 = false := znb fun hu => z.symm.trans ((zu kF hu).2.2.2.2.2.2.2.2.2.2.2.2.2.2.2.2.2.2.2.2.2.2.2.1)
      have zd : u22 = true := by
        simp [Region.binds] at hd
        simp [hd]
      obtain ⟨rfl⟩ := zd
      subst z30_
      subst z
      clear h0 hd
      rw [if_pos (by rfl)]
      go_simp
      exact unhide hK _ _ ⟨u0, u1, u2, u3, u4, u5, u6, u7, u8, u9, u10, u11, u12, u13, u14, u15, u16, u17, u18, u19, u20, u21, true, true, u24, u25, u26, u27, u28, u29, false, dm, rfl, rfl, zu kB, zf⟩
    · intro h0 hd K hK
      have z : u24 = false := h0
      have z30_ : u30 = false := znb fun hu => z.symm.trans ((zu kF hu).2.2.2.2.2.2.2.2.2.2.2.2.2.2.2.2.2.2.2.2.2.2.2.2.1)
      have zd : u23 = true ∧ u22 = true := by
        simp [Region.binds] at hd
        simp [hd]
      obtain ⟨rfl, rfl⟩ := zd
      subst z30_
      subst z
      clear h0 hd
      rw [if_pos (by rfl)]
      go_simp
      exact unhide hK _ _ ⟨u0, u1, u2, u3, u4, u5, u6, u7, u8, u9, u10, u11, u12, u13, u14, u15, u16, u17, u18, u19, u20, u21, true, true, true, u25, u26, u27, u28, u29, false, dm, rfl, rfl, zu kB, zf⟩
    · intro h0 hd K hK
      have z : u25 = false := h0
      have z30_ : u30 = false := znb fun hu => z.symm.trans ((zu kF hu).2.2.2.2.2.2.2.2.2.2.2.2.2.2.2.2.2.2.2.2.2.2.2.2.2.1)
      have zd : u24 = true ∧ u22 = true := by
        simp [Region.binds] at hd
        simp [hd]
      obtain ⟨rfl, rfl⟩ := zd
      subst z30_
      subst z
      clear h0 hd
      rw [if_pos (by rfl)]
      have c0 := keep1 (zu kB) (unhide HH2)
      go_simp
      exact unhide hK _ _ ⟨u0, u1, u2, u3, u4, u5, u6, u7, u8, u9, u10, u11, u12, u13, u14, u15, u16, u17, u18, u19, u20, u21, true, u23, true, true, u26, u27, u28, u29, false, dm, rfl, rfl, zu kB, zf⟩
    · intro h0 hd K hK
      have z : u26 = false := h0
      have z30_ : u30 = false := znb fun hu => z.symm.trans ((zu kF hu).2.2.2.2.2.2.2.2.2.2.2.2.2.2.2.2.2.2.2.2.2.2.2.2.2.2.1)
      have zd : u22 = true := by
        simp [Region.binds] at hd
        simp [hd]
      obtain ⟨rfl⟩ := zd
      subst z30_
      subst z
      clear h0 hd
      rw [if_pos (by rfl)]
      have c0 := keep1 (zu kB) (unhide HG0)
      have c1 := keep1 (zu kB) (unhide HG1)
      have c2 := keep1 (zu kB) (unhide HG2)
      have c3 := keep1 (zu kB) (unhide HG3)
      have c4 := keep1 (zu kB) (unhide HG4)
      have c5 := keep1 (zu kB) (unhide HG5)
      go_simp
      exact unhide hK _ _ ⟨u0, u1, u2, u3, u4, u5, u6, u7, u8, u9, u10, u11, u12, u13, u14, u15, u16, u17, u18, u19, u20, u21, true, u23, u24, u25, true, u27, u28, u29, false, dm, rfl, rfl, zu kB, zf⟩
    · intro h0 hd K hK
      have z : u27 = false := h0
      have z30_ : u30 = false := znb fun hu => z.symm.trans ((zu kF hu).2.2.2.2.2.2.2.2.2.2.2.2.2.2.2.2.2.2.2.2.2.2.2.2.2.2.2.1)
      have zd : u26 = true ∧ u22 = true := by
        simp [Region.binds] at hd
        simp [hd]
      obtain ⟨rfl, rfl⟩ := zd
      subst z30_
      subst z
      clear h0 hd
      rw [if_pos (by rfl)]
      go_simp
      refine (unhide HF27 W (zu kB)).mono ?_
      rintro e w8 ⟨rfl, hb8⟩
      exact unhide hK _ _ ⟨u0, u1, u2, u3, u4, u5, u6, u7, u8, u9, u10, u11, u12, u13, u14, u15, u16, u17, u18, u19, u20, u21, true, u23, u24, u25, true, true, u28, u29, false, dm, rfl, rfl, bc (zu kB) hb8, zf⟩
    · intro h0 hd K hK
      have z : u28 = false := h0
      have z30_ : u30 = false := znb fun hu => z.symm.trans ((zu kF hu).2.2.2.2.2.2.2.2.2.2.2.2.2.2.2.2.2.2.2.2.2.2.2.2.2.2.2.2.1)
      have zd : u25 = true ∧ u27 = true ∧ u22 = true := by
        simp [Region.binds] at hd
        simp [hd]
      obtain ⟨rfl, rfl, rfl⟩ := zd
      subst z30_
      subst z
      clear h0 hd
      rw [if_pos (by rfl)]
      go_simp
      exact unhide hK _ _ ⟨u0, u1, u2, u3, u4, u5, u6, u7, u8, u9, u10, u11, u12, u13, u14, u15, u16, u17, u18, u19, u20, u21, true, u23, u24, true, u26, true, true, u29, false, dm, rfl, rfl, zu kB, zf⟩
    · intro h0 hd K hK
      have z : u29 = false := h0
      have z30_ : u30 = false := znb fun hu => z.symm.trans ((zu kF hu).2.2.2.2.2.2.2.2.2.2.2.2.2.2.2.2.2.2.2.2.2.2.2.2.2.2.2.2.2)
      have zd : u22 = true ∧ u28 = true := by
        simp [Region.binds] at hd
        simp [hd]
      obtain ⟨rfl, rfl⟩ := zd
      subst z30_
      subst z
      clear h0 hd
      rw [if_pos (by rfl)]
      go_simp
      exact unhide hK _ _ ⟨u0, u1, u2, u3, u4, u5, u6, u7, u8, u9, u10, u11, u12, u13, u14, u15, u16, u17, u18, u19, u20, u21, true, u23, u24, u25, u26, u27, true, true, false, dm, rfl, rfl, zu kB, zf⟩
    · intro h0 hd K hK
      have z : u30 = false := h0
      have zd0 : u0 = true ∧ u1 = true ∧ u2 = true ∧ u3 = true ∧ u4 = true ∧ u5 = true ∧ u6 = true ∧ u7 = true ∧ u8 = true ∧ u9 = true ∧ u10 = true ∧ u11 = true ∧ u12 = true ∧ u13 = true ∧ u14 = true ∧ u15 = true ∧ u16 = true ∧ u17 = true ∧ u18 = true ∧ u19 = true ∧ u20 = true ∧ u21 = true ∧ u22 = true ∧ u23 = true ∧ u24 = true ∧ u25 = true ∧ u26 = true ∧ u27 = true ∧ u28 = true ∧ u29 = true := by
        simp [Region.binds] at hd
        simp [hd]
      have zd : u0 = true ∧ u1 = true ∧ u2 = true ∧ u3 = true ∧ u4 = true ∧ u5 = true ∧ u6 = true ∧ u7 = true ∧ u8 = true ∧ u9 = true ∧ u10 = true ∧ u11 = true ∧ u12 = true ∧ u13 = true ∧ u14 = true ∧ u15 = true ∧ u16 = true ∧ u17 = true ∧ u18 = true ∧ u19 = true ∧ u20 = true ∧ u21 = true ∧ u22 = true ∧ u23 = true ∧ u24 = true ∧ u25 = true ∧ u26 = true ∧ u27 = true ∧ u28 = true ∧ u29 = true := ⟨zd0.1, zd0.2.1, zd0.2.2.1, zd0.2.2.2.1, zd0.2.2.2.2.1, zd0.2.2.2.2.2.1, zd0.2.2.2.2.2.2.1, zd0.2.2.2.2.2.2.2.1, zd0.2.2.2.2.2.2.2.2.1, zd0.2.2.2.2.2.2.2.2.2.1, zd0.2.2.2.2.2.2.2.2.2.2.1, zd0.2.2.2.2.2.2.2.2.2.2.2.1, zd0.2.2.2.2.2.2.2.2.2.2.2.2.1, zd0.2.2.2.2.2.2.2.2.2.2.2.2.2.1, zd0.2.2.2.2.2.2.2.2.2.2.2.2.2.2.1, zd0.2.2.2.2.2.2.2.2.2.2.2.2.2.2.2.1, zd0.2.2.2.2.2.2.2.2.2.2.2.2.2.2.2.2.1, zd0.2.2.2.2.2.2.2.2.2.2.2.2.2.2.2.2.2.1, zd0.2.2.2.2.2.2.2.2.2.2.2.2.2.2.2.2.2.2.1, zd0.2.2.2.2.2.2.2.2.2.2.2.2.2.2.2.2.2.2.2.1, zd0.2.2.2.2.2.2.2.2.2.2.2.2.2.2.2.2.2.2.2.2.1, zd0.2.2.2.2.2.2.2.2.2.2.2.2.2.2.2.2.2.2.2.2.2.1, zd0.2.2.2.2.2.2.2.2.2.2.2.2.2.2.2.2.2.2.2.2.2.2.1, zd0.2.2.2.2.2.2.2.2.2.2.2.2.2.2.2.2.2.2.2.2.2.2.2.1, zd0.2.2.2.2.2.2.2.2.2.2.2.2.2.2.2.2.2.2.2.2.2.2.2.2.1, zd0.2.2.2.2.2.2.2.2.2.2.2.2.2.2.2.2.2.2.2.2.2.2.2.2.2.1, zd0.2.2.2.2.2.2.2.2.2.2.2.2.2.2.2.2.2.2.2.2.2.2.2.2.2.2.1, zd0.2.2.2.2.2.2.2.2.2.2.2.2.2.2.2.2.2.2.2.2.2.2.2.2.2.2.2.1, zd0.2.2.2.2.2.2.2.2.2.2.2.2.2.2.2.2.2.2.2.2.2.2.2.2.2.2.2.2.1, zd0.2.2.2.2.2.2.2.2.2.2.2.2.2.2.2.2.2.2.2.2.2.2.2.2.2.2.2.2.2⟩
      obtain ⟨rfl, rfl, rfl, rfl, rfl, rfl, rfl, rfl, rfl, rfl, rfl, rfl, rfl, rfl, rfl, rfl, rfl, rfl, rfl, rfl, rfl, rfl, rfl, rfl, rfl, rfl, rfl, rfl, rfl, rfl⟩ := zd
      subst z
      clear h0 hd
      rw [if_pos (by rfl)]
      go_simp
      exact unhide hK _ _ ⟨true, true, true, true, true, true, true, true, true, true, true, true, true, true, true, true, true, true, true, true, true, true, true, true, true, true, true, true, true, true, true, dm, rfl, rfl, zu kB, (fun _ => ⟨rfl, rfl, rfl, rfl, rfl, rfl, rfl, rfl, rfl, rfl, rfl, rfl, rfl, rfl, rfl, rfl, rfl, rfl, rfl, rfl, rfl, rfl, rfl, rfl, rfl, rfl, rfl, rfl, rfl, rfl⟩)⟩
  case hend =>
    intro Lb A W hI
    obtain ⟨u0, u1, u2, u3, u4, hI⟩ := hI
    obtain ⟨u5, u6, u7, u8, u9, hI⟩ := hI
    obtain ⟨u10, u11, u12, u13, u14, hI⟩ := hI
    obtain ⟨u15, u16, u17, u18, u19, hI⟩ := hI
    obtain ⟨u20, u21, u22, u23, u24, hI⟩ := hI
    obtain ⟨u25, u26, u27, u28, u29, hI⟩ := hI
    obtain ⟨u30, dm, hI⟩ := hI
    obtain ⟨hLb, hI⟩ := hI
    obtain ⟨hA, hI⟩ := hI
    obtain ⟨kB, hI⟩ := hI
    have kF := hI
    clear hI
    subst hLb
    subst hA
    intro hL
    have hl : u0 = true ∧ u1 = true ∧ u2 = true ∧ u3 = true ∧ u4 = true ∧ u5 = true ∧ u6 = true ∧ u7 = true ∧ u8 = true ∧ u9 = true ∧ u10 = true ∧ u11 = true ∧ u12 = true ∧ u13 = true ∧ u14 = true ∧ u15 = true ∧ u16 = true ∧ u17 = true ∧ u18 = true ∧ u19 = true ∧ u20 = true ∧ u21 = true ∧ u22 = true ∧ u23 = true ∧ u24 = true ∧ u25 = true ∧ u26 = true ∧ u27 = true ∧ u28 = true ∧ u29 = true ∧ u30 = true := by
      have h2 := congrArg Array.toList hL
      simpa [List.replicate] using h2
    obtain ⟨rfl, rfl, rfl, rfl, rfl, rfl, rfl, rfl, rfl, rfl, rfl, rfl, rfl, rfl, rfl, rfl, rfl, rfl, rfl, rfl, rfl, rfl, rfl, rfl, rfl, rfl, rfl, rfl, rfl, rfl, rfl⟩ := hl
    exact unhide HQ  W kB

end Go.Proofs.Ytoidhlackoigkaa
