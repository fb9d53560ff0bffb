/-
  Statements of the program's search that draw their order.
-/
import Derived.Test.YtoidhlackoigkaaNbMath
import Derived.Test.YtoidhlackoigkaaInv2
import Derived.Test.YtoidhlackoigkaaWi23
namespace Go.Proofs.Ytoidhlackoigkaa
open Go.ChangeShapes Go.WideShapes Go.ChangeAt Go.RowKit
set_option linter.unusedVariables false
set_option linter.unusedSimpArgs false

noncomputable def rg47 (id : Nat) : Go.Code := match Try.f47.body with | some c => (regOfZ id c).getD .skip | none => .skip
noncomputable def rg48 (id : Nat) : Go.Code := match Try.f48.body with | some c => (regOfZ id c).getD .skip | none => .skip
set_option maxHeartbeats 4000000 in
set_option maxRecDepth 100000 in
theorem ly1n {s0 s1 s3 s4 s5 s7 s8 s9 s10 s11 s12 s13 s14 s15 s16 s17 s18 s19 s20 s21 s22 s23 s24 s25 s26 s27 s28 s29 s30 s31 s32 s33 s34 s35 s36 s37 s38 s39 s40 s41 s42 s43 s44 s45 s46 s47 s48 s49 s50 s51 s52 s53 s54 s55 s56 : Value} {g5 g : Nat} {V : World} {K_ : Act → World → Prop} 
    (HB : Hid (V.cell? ⟨g5, 0, none⟩ = some (.pointer none))) 
    
    (hQ : ∀  (W1 : World), Below V.heap.size V W1 → K_ { tmps := #[s0, s1, .pointer (some ⟨g5, 0, none⟩), s3, s4, s5, .pointer (some ⟨g, 0, none⟩), s7, s8, s9, .pointer none, .bool (false), .bool (false), undef, undef, undef, undef, undef, undef, undef, .bool (false), s21, s22, s23, s24, s25, s26, s27, s28, s29, s30, s31, s32, s33, s34, s35, s36, s37, s38, s39, s40, s41, s42, s43, s44, s45, s46, s47, s48, s49, s50, s51, s52, s53, s54, s55, s56], defers := [] } W1) :
    Go.Code.wp Try.prog (rg47 1) (Only K_) { tmps := #[s0, s1, .pointer (some ⟨g5, 0, none⟩), s3, s4, s5, .pointer (some ⟨g, 0, none⟩), s7, s8, s9, s10, s11, s12, s13, s14, s15, s16, s17, s18, s19, s20, s21, s22, s23, s24, s25, s26, s27, s28, s29, s30, s31, s32, s33, s34, s35, s36, s37, s38, s39, s40, s41, s42, s43, s44, s45, s46, s47, s48, s49, s50, s51, s52, s53, s54, s55, s56], defers := [] } V := by
  have HQ := hide hQ
  clear hQ
  conv => arg 2; whnf
  refine wp_region_inv2 (fun Lb A W => ∃ (u0 u1 u2 u3 u4 u5 u6 u7 u8 u9 u10 : Bool) (dm : Nat), Lb = #[u0, u1, u2, u3, u4, u5, u6, u7, u8, u9, u10] ∧ A = ({ tmps := #[s0, s1, .pointer (some ⟨g5, 0, none⟩), s3, s4, s5, .pointer (some ⟨g, 0, none⟩), s7, s8, s9, (bif u0 then .pointer none else s10), (bif u1 then .bool (false) else s11), (bif u2 then .bool (false) else s12), (bif u3 then undef else s13), (bif u4 then undef else s14), (bif u5 then undef else s15), (bif u6 then undef else s16), (bif u7 then undef else s17), (bif u8 then undef else s18), (bif u9 then undef else s19), (bif u10 then .bool (false) else s20), s21, s22, s23, s24, s25, s26, s27, s28, s29, s30, s31, s32, s33, s34, s35, s36, s37, s38, s39, s40, s41, s42, s43, s44, s45, s46, s47, s48, s49, s50, s51, s52, s53, s54, s55, s56], defers := [] } : Act) ∧ Below V.heap.size V W ∧ (u1 = true → u0 = true) ∧ (u2 = true → u1 = true) ∧ (u3 = true → u2 = true) ∧ (u4 = true → u3 = true ∧ u2 = true) ∧ (u5 = true → u2 = true) ∧ (u6 = true → u5 = true ∧ u2 = true) ∧ (u7 = true → u6 = true ∧ u2 = true) ∧ (u8 = true → u7 = true ∧ u2 = true ∧ u4 = true) ∧ (u9 = true → u4 = true ∧ u8 = true ∧ u2 = true) ∧ (u10 = true → u0 = true ∧ u1 = true ∧ u2 = true ∧ u3 = true ∧ u4 = true ∧ u5 = true ∧ u6 = true ∧ u7 = true ∧ u8 = true ∧ u9 = true)) (by kernel_rfl) (by kernel_rfl) ?h0 ?hstep ?hend
  case h0 =>
    exact ⟨false, false, false, false, false, false, false, false, false, false, false, 0, rfl, rfl, Below.drew (Below.refl _ _), zf, zf, zf, zf, zf, zf, zf, zf, zf, zf⟩
  case hstep =>
    intro Lb A W hI
    obtain ⟨u0, u1, u2, u3, u4, hI⟩ := hI
    obtain ⟨u5, u6, u7, u8, u9, hI⟩ := hI
    obtain ⟨u10, dm, hI⟩ := hI
    obtain ⟨hLb, hI⟩ := hI
    obtain ⟨hA, hI⟩ := hI
    obtain ⟨kB, hI⟩ := hI
    obtain ⟨l1, hI⟩ := hI
    obtain ⟨l2, hI⟩ := hI
    obtain ⟨l3, hI⟩ := hI
    obtain ⟨l4, hI⟩ := hI
    obtain ⟨l5, hI⟩ := hI
    obtain ⟨l6, hI⟩ := hI
    obtain ⟨l7, hI⟩ := hI
    obtain ⟨l8, hI⟩ := hI
    obtain ⟨l9, hI⟩ := hI
    have kF := hI
    clear hI
    subst hLb
    subst hA
    replace kB := hide kB
    replace l1 := hide l1
    replace l2 := hide l2
    replace l3 := hide l3
    replace l4 := hide l4
    replace l5 := hide l5
    replace l6 := hide l6
    replace l7 := hide l7
    replace l8 := hide l8
    replace l9 := hide l9
    replace kF := hide kF
    refine ⟨?_, ?_, ?_, ?_, ?_, ?_, ?_, ?_, ?_, ?_, ?_, trivial⟩
    · intro h0 hd K hK
      have z : u0 = false := h0
      have z10_ : u10 = false := znb fun hu => z.symm.trans ((zu kF hu).1)
      subst z10_
      subst z
      clear h0 hd
      rw [if_pos (by rfl)]
      have c0 := keep1 (zu kB) (unhide HB)
      go_simp
      exact unhide hK _ _ ⟨true, u1, u2, u3, u4, u5, u6, u7, u8, u9, false, dm, rfl, rfl, zu kB, (fun h => rfl), zu l2, zu l3, zu l4, zu l5, zu l6, zu l7, zu l8, zu l9, zf⟩
    · intro h0 hd K hK
      have z : u1 = false := h0
      have z10_ : u10 = false := znb fun hu => z.symm.trans ((zu kF hu).2.1)
      have zd : u0 = true := by
        simp [Region.binds] at hd
        simp [hd]
      obtain ⟨rfl⟩ := zd
      subst z10_
      subst z
      clear h0 hd
      rw [if_pos (by rfl)]
      go_simp
      exact unhide hK _ _ ⟨true, true, u2, u3, u4, u5, u6, u7, u8, u9, false, dm, rfl, rfl, zu kB, (fun _ => rfl), (fun h => rfl), zu l3, zu l4, zu l5, zu l6, zu l7, zu l8, zu l9, zf⟩
    · intro h0 hd K hK
      have z : u2 = false := h0
      have z10_ : u10 = false := znb fun hu => z.symm.trans ((zu kF hu).2.2.1)
      have zd : u1 = true := by
        simp [Region.binds] at hd
        simp [hd]
      obtain ⟨rfl⟩ := zd
      subst z10_
      subst z
      clear h0 hd
      rw [if_pos (by rfl)]
      go_simp
      exact unhide hK _ _ ⟨u0, true, true, u3, u4, u5, u6, u7, u8, u9, false, dm, rfl, rfl, zu kB, zu l1, (fun _ => rfl), (fun h => rfl), (fun h => ⟨(zu l4 h).1, rfl⟩), (fun h => rfl), (fun h => ⟨(zu l6 h).1, rfl⟩), (fun h => ⟨(zu l7 h).1, rfl⟩), (fun h => ⟨(zu l8 h).1, rfl, (zu l8 h).2.2⟩), (fun h => ⟨(zu l9 h).1, (zu l9 h).2.1, rfl⟩), zf⟩
    · intro h0 hd K hK
      have z : u3 = false := h0
      have z10_ : u10 = false := znb fun hu => z.symm.trans ((zu kF hu).2.2.2.1)
      have zd : u2 = true := by
        simp [Region.binds] at hd
        simp [hd]
      obtain ⟨rfl⟩ := zd
      subst z10_
      subst z
      clear h0 hd
      rw [if_neg (Bool.eq_false_iff.1 (by rfl))]
      try go_simp
      exact unhide hK _ _ ⟨u0, u1, true, true, u4, u5, u6, u7, u8, u9, false, dm, rfl, rfl, zu kB, zu l1, zu l2, (fun _ => rfl), (fun h => ⟨rfl, rfl⟩), (fun h => rfl), (fun h => ⟨(zu l6 h).1, rfl⟩), (fun h => ⟨(zu l7 h).1, rfl⟩), (fun h => ⟨(zu l8 h).1, rfl, (zu l8 h).2.2⟩), (fun h => ⟨(zu l9 h).1, (zu l9 h).2.1, rfl⟩), zf⟩
    · intro h0 hd K hK
      have z : u4 = false := h0
      have z10_ : u10 = false := znb fun hu => z.symm.trans ((zu kF hu).2.2.2.2.1)
      have zd : u3 = true ∧ u2 = true := by
        simp [Region.binds] at hd
        simp [hd]
      obtain ⟨rfl, rfl⟩ := zd
      subst z10_
      subst z
      clear h0 hd
      rw [if_neg (Bool.eq_false_iff.1 (by rfl))]
      try go_simp
      exact unhide hK _ _ ⟨u0, u1, true, true, true, u5, u6, u7, u8, u9, false, dm, rfl, rfl, zu kB, zu l1, zu l2, (fun h => rfl), (fun _ => ⟨rfl, rfl⟩), (fun h => rfl), (fun h => ⟨(zu l6 h).1, rfl⟩), (fun h => ⟨(zu l7 h).1, rfl⟩), (fun h => ⟨(zu l8 h).1, rfl, rfl⟩), (fun h => ⟨rfl, (zu l9 h).2.1, rfl⟩), zf⟩
    · intro h0 hd K hK
      have z : u5 = false := h0
      have z10_ : u10 = false := znb fun hu => z.symm.trans ((zu kF hu).2.2.2.2.2.1)
      have zd : u2 = true := by
        simp [Region.binds] at hd
        simp [hd]
      obtain ⟨rfl⟩ := zd
      subst z10_
      subst z
      clear h0 hd
      rw [if_neg (Bool.eq_false_iff.1 (by rfl))]
      try go_simp
      exact unhide hK _ _ ⟨u0, u1, true, u3, u4, true, u6, u7, u8, u9, false, dm, rfl, rfl, zu kB, zu l1, zu l2, (fun h => rfl), (fun h => ⟨(zu l4 h).1, rfl⟩), (fun _ => rfl), (fun h => ⟨rfl, rfl⟩), (fun h => ⟨(zu l7 h).1, rfl⟩), (fun h => ⟨(zu l8 h).1, rfl, (zu l8 h).2.2⟩), (fun h => ⟨(zu l9 h).1, (zu l9 h).2.1, rfl⟩), zf⟩
    · intro h0 hd K hK
      have z : u6 = false := h0
      have z10_ : u10 = false := znb fun hu => z.symm.trans ((zu kF hu).2.2.2.2.2.2.1)
      have zd : u5 = true ∧ u2 = true := by
        simp [Region.binds] at hd
        simp [hd]
      obtain ⟨rfl, rfl⟩ := zd
      subst z10_
      subst z
      clear h0 hd
      rw [if_neg (Bool.eq_false_iff.1 (by rfl))]
      try go_simp
      exact unhide hK _ _ ⟨u0, u1, true, u3, u4, true, true, u7, u8, u9, false, dm, rfl, rfl, zu kB, zu l1, zu l2, (fun h => rfl), (fun h => ⟨(zu l4 h).1, rfl⟩), (fun h => rfl), (fun _ => ⟨rfl, rfl⟩), (fun h => ⟨rfl, rfl⟩), (fun h => ⟨(zu l8 h).1, rfl, (zu l8 h).2.2⟩), (fun h => ⟨(zu l9 h).1, (zu l9 h).2.1, rfl⟩), zf⟩
    · intro h0 hd K hK
      have z : u7 = false := h0
      have z10_ : u10 = false := znb fun hu => z.symm.trans ((zu kF hu).2.2.2.2.2.2.2.1)
      have zd : u6 = true ∧ u2 = true := by
        simp [Region.binds] at hd
        simp [hd]
      obtain ⟨rfl, rfl⟩ := zd
      subst z10_
      subst z
      clear h0 hd
      rw [if_neg (Bool.eq_false_iff.1 (by rfl))]
      try go_simp
      exact unhide hK _ _ ⟨u0, u1, true, u3, u4, u5, true, true, u8, u9, false, dm, rfl, rfl, zu kB, zu l1, zu l2, (fun h => rfl), (fun h => ⟨(zu l4 h).1, rfl⟩), (fun h => rfl), (fun h => ⟨(zu l6 h).1, rfl⟩), (fun _ => ⟨rfl, rfl⟩), (fun h => ⟨rfl, rfl, (zu l8 h).2.2⟩), (fun h => ⟨(zu l9 h).1, (zu l9 h).2.1, rfl⟩), zf⟩
    · intro h0 hd K hK
      have z : u8 = false := h0
      have z10_ : u10 = false := znb fun hu => z.symm.trans ((zu kF hu).2.2.2.2.2.2.2.2.1)
      have zd : u7 = true ∧ u2 = true ∧ u4 = true := by
        simp [Region.binds] at hd
        simp [hd]
      obtain ⟨rfl, rfl, rfl⟩ := zd
      subst z10_
      subst z
      clear h0 hd
      rw [if_neg (Bool.eq_false_iff.1 (by rfl))]
      try go_simp
      exact unhide hK _ _ ⟨u0, u1, true, u3, true, u5, u6, true, true, u9, false, dm, rfl, rfl, zu kB, zu l1, zu l2, (fun h => rfl), (fun h => ⟨(zu l4 h).1, rfl⟩), (fun h => rfl), (fun h => ⟨(zu l6 h).1, rfl⟩), (fun h => ⟨(zu l7 h).1, rfl⟩), (fun _ => ⟨rfl, rfl, rfl⟩), (fun h => ⟨rfl, rfl, rfl⟩), zf⟩
    · intro h0 hd K hK
      have z : u9 = false := h0
      have z10_ : u10 = false := znb fun hu => z.symm.trans ((zu kF hu).2.2.2.2.2.2.2.2.2)
      have zd : u4 = true ∧ u8 = true ∧ u2 = true := by
        simp [Region.binds] at hd
        simp [hd]
      obtain ⟨rfl, rfl, rfl⟩ := zd
      subst z10_
      subst z
      clear h0 hd
      rw [if_neg (Bool.eq_false_iff.1 (by rfl))]
      try go_simp
      exact unhide hK _ _ ⟨u0, u1, true, u3, true, u5, u6, u7, true, true, false, dm, rfl, rfl, zu kB, zu l1, zu l2, (fun h => rfl), (fun h => ⟨(zu l4 h).1, rfl⟩), (fun h => rfl), (fun h => ⟨(zu l6 h).1, rfl⟩), (fun h => ⟨(zu l7 h).1, rfl⟩), (fun h => ⟨(zu l8 h).1, rfl, rfl⟩), (fun _ => ⟨rfl, rfl, rfl⟩), zf⟩
    · intro h0 hd K hK
      have z : u10 = false := h0
      have zd0 : u2 = true ∧ u9 = true := by
        simp [Region.binds] at hd
        simp [hd]
      have zd : u2 = true ∧ u9 = true ∧ u0 = true ∧ u1 = true ∧ u3 = true ∧ u4 = true ∧ u5 = true ∧ u6 = true ∧ u7 = true ∧ u8 = true := ⟨zd0.1, zd0.2, (zu l1 (zu l2 zd0.1)), (zu l2 zd0.1), (zu l4 (zu l9 zd0.2).1).1, (zu l9 zd0.2).1, (zu l6 (zu l7 (zu l8 (zu l9 zd0.2).2.1).1).1).1, (zu l7 (zu l8 (zu l9 zd0.2).2.1).1).1, (zu l8 (zu l9 zd0.2).2.1).1, (zu l9 zd0.2).2.1⟩
      obtain ⟨rfl, rfl, rfl, rfl, rfl, rfl, rfl, rfl, rfl, rfl⟩ := zd
      subst z
      clear h0 hd
      rw [if_pos (by rfl)]
      go_simp
      exact unhide hK _ _ ⟨true, true, true, true, true, true, true, true, true, true, true, dm, rfl, rfl, zu kB, (fun _ => rfl), (fun _ => rfl), (fun _ => rfl), (fun _ => ⟨rfl, rfl⟩), (fun _ => rfl), (fun _ => ⟨rfl, rfl⟩), (fun _ => ⟨rfl, rfl⟩), (fun _ => ⟨rfl, rfl, rfl⟩), (fun _ => ⟨rfl, rfl, rfl⟩), (fun _ => ⟨rfl, rfl, rfl, rfl, rfl, rfl, rfl, rfl, rfl, rfl⟩)⟩
  case hend =>
    intro Lb A W hI
    obtain ⟨u0, u1, u2, u3, u4, hI⟩ := hI
    obtain ⟨u5, u6, u7, u8, u9, hI⟩ := hI
    obtain ⟨u10, dm, hI⟩ := hI
    obtain ⟨hLb, hI⟩ := hI
    obtain ⟨hA, hI⟩ := hI
    obtain ⟨kB, hI⟩ := hI
    obtain ⟨l1, hI⟩ := hI
    obtain ⟨l2, hI⟩ := hI
    obtain ⟨l3, hI⟩ := hI
    obtain ⟨l4, hI⟩ := hI
    obtain ⟨l5, hI⟩ := hI
    obtain ⟨l6, hI⟩ := hI
    obtain ⟨l7, hI⟩ := hI
    obtain ⟨l8, hI⟩ := hI
    obtain ⟨l9, hI⟩ := hI
    have kF := hI
    clear hI
    subst hLb
    subst hA
    intro hL
    have hl : u0 = true ∧ u1 = true ∧ u2 = true ∧ u3 = true ∧ u4 = true ∧ u5 = true ∧ u6 = true ∧ u7 = true ∧ u8 = true ∧ u9 = true ∧ u10 = true := by
      have h2 := congrArg Array.toList hL
      simpa [List.replicate] using h2
    obtain ⟨rfl, rfl, rfl, rfl, rfl, rfl, rfl, rfl, rfl, rfl, rfl⟩ := hl
    exact unhide HQ   W kB

set_option maxHeartbeats 4000000 in
set_option maxRecDepth 100000 in
theorem ly1s {s0 s1 s3 s4 s5 s7 s8 s9 s10 s11 s12 s13 s14 s15 s16 s17 s18 s19 s20 s21 s22 s23 s24 s25 s26 s27 s28 s29 s30 s31 s32 s33 s34 s35 s36 s37 s38 s39 s40 s41 s42 s43 s44 s45 s46 s47 s48 s49 s50 s51 s52 s53 s54 s55 s56 : Value} {g5 g nb k c kb cb : Nat} {u ub : Option Addr} {Wd ha hb : Int} {V : World} {K_ : Act → World → Prop} 
    (HB : Hid (V.cell? ⟨g5, 0, none⟩ = some (.pointer (some ⟨nb, 0, none⟩)))) (HG0 : Hid (V.cell? ⟨g, 0, none⟩ = some (.int .i64 (Wd)))) (HG1 : Hid (V.cell? ⟨g, 1, none⟩ = some (.slice u k c))) (HN0 : Hid (V.cell? ⟨nb, 0, none⟩ = some (.int .i64 (Wd)))) (HN1 : Hid (V.cell? ⟨nb, 1, none⟩ = some (.slice ub kb cb))) 
    (HF4 : Hid (∀ Xw, Below V.heap.size V Xw → Calls Try.prog 25 #[.agg #[.int .i64 (Wd), .slice u k c]] Xw fun e w' => e = .returned (.int .i64 (ha)) ∧ Below Xw.heap.size Xw w'))
    (HF8 : Hid (∀ Xw, Below V.heap.size V Xw → Calls Try.prog 25 #[.agg #[.int .i64 (Wd), .slice ub kb cb]] Xw fun e w' => e = .returned (.int .i64 (hb)) ∧ Below Xw.heap.size Xw w'))
    (hQ : ∀  (W1 : World), Below V.heap.size V W1 → K_ { tmps := #[s0, s1, .pointer (some ⟨g5, 0, none⟩), s3, s4, s5, .pointer (some ⟨g, 0, none⟩), s7, s8, s9, .pointer (some ⟨nb, 0, none⟩), .bool (true), .bool (true), .agg #[.int .i64 (Wd), .slice u k c], .int .i64 (ha), .pointer (some ⟨nb, 0, none⟩), .pointer (some ⟨nb, 0, none⟩), .agg #[.int .i64 (Wd), .slice ub kb cb], .int .i64 (hb), .bool (decide (hb ≤ ha)), .bool (decide (hb ≤ ha)), s21, s22, s23, s24, s25, s26, s27, s28, s29, s30, s31, s32, s33, s34, s35, s36, s37, s38, s39, s40, s41, s42, s43, s44, s45, s46, s47, s48, s49, s50, s51, s52, s53, s54, s55, s56], defers := [] } W1) :
    Go.Code.wp Try.prog (rg47 1) (Only K_) { tmps := #[s0, s1, .pointer (some ⟨g5, 0, none⟩), s3, s4, s5, .pointer (some ⟨g, 0, none⟩), s7, s8, s9, s10, s11, s12, s13, s14, s15, s16, s17, s18, s19, s20, s21, s22, s23, s24, s25, s26, s27, s28, s29, s30, s31, s32, s33, s34, s35, s36, s37, s38, s39, s40, s41, s42, s43, s44, s45, s46, s47, s48, s49, s50, s51, s52, s53, s54, s55, s56], defers := [] } V := by
  have HQ := hide hQ
  clear hQ
  conv => arg 2; whnf
  refine wp_region_inv2 (fun Lb A W => ∃ (u0 u1 u2 u3 u4 u5 u6 u7 u8 u9 u10 : Bool) (dm : Nat), Lb = #[u0, u1, u2, u3, u4, u5, u6, u7, u8, u9, u10] ∧ A = ({ tmps := #[s0, s1, .pointer (some ⟨g5, 0, none⟩), s3, s4, s5, .pointer (some ⟨g, 0, none⟩), s7, s8, s9, (bif u0 then .pointer (some ⟨nb, 0, none⟩) else s10), (bif u1 then .bool (true) else s11), (bif u2 then .bool (true) else s12), (bif u3 then .agg #[.int .i64 (Wd), .slice u k c] else s13), (bif u4 then .int .i64 (ha) else s14), (bif u5 then .pointer (some ⟨nb, 0, none⟩) else s15), (bif u6 then .pointer (some ⟨nb, 0, none⟩) else s16), (bif u7 then .agg #[.int .i64 (Wd), .slice ub kb cb] else s17), (bif u8 then .int .i64 (hb) else s18), (bif u9 then .bool (decide (hb ≤ ha)) else s19), (bif u10 then .bool (decide (hb ≤ ha)) else s20), s21, s22, s23, s24, s25, s26, s27, s28, s29, s30, s31, s32, s33, s34, s35, s36, s37, s38, s39, s40, s41, s42, s43, s44, s45, s46, s47, s48, s49, s50, s51, s52, s53, s54, s55, s56], defers := [] } : Act) ∧ Below V.heap.size V W ∧ (u1 = true → u0 = true) ∧ (u2 = true → u1 = true) ∧ (u3 = true → u2 = true) ∧ (u4 = true → u3 = true ∧ u2 = true) ∧ (u5 = true → u2 = true) ∧ (u6 = true → u5 = true ∧ u2 = true) ∧ (u7 = true → u6 = true ∧ u2 = true) ∧ (u8 = true → u7 = true ∧ u2 = true ∧ u4 = true) ∧ (u9 = true → u4 = true ∧ u8 = true ∧ u2 = true) ∧ (u10 = true → u0 = true ∧ u1 = true ∧ u2 = true ∧ u3 = true ∧ u4 = true ∧ u5 = true ∧ u6 = true ∧ u7 = true ∧ u8 = true ∧ u9 = true)) (by kernel_rfl) (by kernel_rfl) ?h0 ?hstep ?hend
  case h0 =>
    exact ⟨false, false, false, false, false, false, false, false, false, false, false, 0, rfl, rfl, Below.drew (Below.refl _ _), zf, zf, zf, zf, zf, zf, zf, zf, zf, zf⟩
  case hstep =>
    intro Lb A W hI
    obtain ⟨u0, u1, u2, u3, u4, hI⟩ := hI
    obtain ⟨u5, u6, u7, u8, u9, hI⟩ := hI
    obtain ⟨u10, dm, hI⟩ := hI
    obtain ⟨hLb, hI⟩ := hI
    obtain ⟨hA, hI⟩ := hI
    obtain ⟨kB, hI⟩ := hI
    obtain ⟨l1, hI⟩ := hI
    obtain ⟨l2, hI⟩ := hI
    obtain ⟨l3, hI⟩ := hI
    obtain ⟨l4, hI⟩ := hI
    obtain ⟨l5, hI⟩ := hI
    obtain ⟨l6, hI⟩ := hI
    obtain ⟨l7, hI⟩ := hI
    obtain ⟨l8, hI⟩ := hI
    obtain ⟨l9, hI⟩ := hI
    have kF := hI
    clear hI
    subst hLb
    subst hA
    replace kB := hide kB
    replace l1 := hide l1
    replace l2 := hide l2
    replace l3 := hide l3
    replace l4 := hide l4
    replace l5 := hide l5
    replace l6 := hide l6
    replace l7 := hide l7
    replace l8 := hide l8
    replace l9 := hide l9
    replace kF := hide kF
    refine ⟨?_, ?_, ?_, ?_, ?_, ?_, ?_, ?_, ?_, ?_, ?_, trivial⟩
    · intro h0 hd K hK
      have z : u0 = false := h0
      have z10_ : u10 = false := znb fun hu => z.symm.trans ((zu kF hu).1)
      subst z10_
      subst z
      clear h0 hd
      rw [if_pos (by rfl)]
      have c0 := keep1 (zu kB) (unhide HB)
      go_simp
      exact unhide hK _ _ ⟨true, u1, u2, u3, u4, u5, u6, u7, u8, u9, false, dm, rfl, rfl, zu kB, (fun h => rfl), zu l2, zu l3, zu l4, zu l5, zu l6, zu l7, zu l8, zu l9, zf⟩
    · intro h0 hd K hK
      have z : u1 = false := h0
      have z10_ : u10 = false := znb fun hu => z.symm.trans ((zu kF hu).2.1)
      have zd : u0 = true := by
        simp [Region.binds] at hd
        simp [hd]
      obtain ⟨rfl⟩ := zd
      subst z10_
      subst z
      clear h0 hd
      rw [if_pos (by rfl)]
      go_simp
      exact unhide hK _ _ ⟨true, true, u2, u3, u4, u5, u6, u7, u8, u9, false, dm, rfl, rfl, zu kB, (fun _ => rfl), (fun h => rfl), zu l3, zu l4, zu l5, zu l6, zu l7, zu l8, zu l9, zf⟩
    · intro h0 hd K hK
      have z : u2 = false := h0
      have z10_ : u10 = false := znb fun hu => z.symm.trans ((zu kF hu).2.2.1)
      have zd : u1 = true := by
        simp [Region.binds] at hd
        simp [hd]
      obtain ⟨rfl⟩ := zd
      subst z10_
      subst z
      clear h0 hd
      rw [if_pos (by rfl)]
      go_simp
      exact unhide hK _ _ ⟨u0, true, true, u3, u4, u5, u6, u7, u8, u9, false, dm, rfl, rfl, zu kB, zu l1, (fun _ => rfl), (fun h => rfl), (fun h => ⟨(zu l4 h).1, rfl⟩), (fun h => rfl), (fun h => ⟨(zu l6 h).1, rfl⟩), (fun h => ⟨(zu l7 h).1, rfl⟩), (fun h => ⟨(zu l8 h).1, rfl, (zu l8 h).2.2⟩), (fun h => ⟨(zu l9 h).1, (zu l9 h).2.1, rfl⟩), zf⟩
    · intro h0 hd K hK
      have z : u3 = false := h0
      have z10_ : u10 = false := znb fun hu => z.symm.trans ((zu kF hu).2.2.2.1)
      have zd : u2 = true := by
        simp [Region.binds] at hd
        simp [hd]
      obtain ⟨rfl⟩ := zd
      subst z10_
      subst z
      clear h0 hd
      rw [if_pos (by rfl)]
      have c0 := keep1 (zu kB) (unhide HG0)
      have c1 := keep1 (zu kB) (unhide HG1)
      go_simp
      exact unhide hK _ _ ⟨u0, u1, true, true, u4, u5, u6, u7, u8, u9, false, dm, rfl, rfl, zu kB, zu l1, zu l2, (fun _ => rfl), (fun h => ⟨rfl, rfl⟩), (fun h => rfl), (fun h => ⟨(zu l6 h).1, rfl⟩), (fun h => ⟨(zu l7 h).1, rfl⟩), (fun h => ⟨(zu l8 h).1, rfl, (zu l8 h).2.2⟩), (fun h => ⟨(zu l9 h).1, (zu l9 h).2.1, rfl⟩), zf⟩
    · intro h0 hd K hK
      have z : u4 = false := h0
      have z10_ : u10 = false := znb fun hu => z.symm.trans ((zu kF hu).2.2.2.2.1)
      have zd : u3 = true ∧ u2 = true := by
        simp [Region.binds] at hd
        simp [hd]
      obtain ⟨rfl, rfl⟩ := zd
      subst z10_
      subst z
      clear h0 hd
      rw [if_pos (by rfl)]
      go_simp
      refine (unhide HF4 W (zu kB)).mono ?_
      rintro e w8 ⟨rfl, hb8⟩
      exact unhide hK _ _ ⟨u0, u1, true, true, true, u5, u6, u7, u8, u9, false, dm, rfl, rfl, bc (zu kB) hb8, zu l1, zu l2, (fun h => rfl), (fun _ => ⟨rfl, rfl⟩), (fun h => rfl), (fun h => ⟨(zu l6 h).1, rfl⟩), (fun h => ⟨(zu l7 h).1, rfl⟩), (fun h => ⟨(zu l8 h).1, rfl, rfl⟩), (fun h => ⟨rfl, (zu l9 h).2.1, rfl⟩), zf⟩
    · intro h0 hd K hK
      have z : u5 = false := h0
      have z10_ : u10 = false := znb fun hu => z.symm.trans ((zu kF hu).2.2.2.2.2.1)
      have zd : u2 = true := by
        simp [Region.binds] at hd
        simp [hd]
      obtain ⟨rfl⟩ := zd
      subst z10_
      subst z
      clear h0 hd
      rw [if_pos (by rfl)]
      have c0 := keep1 (zu kB) (unhide HB)
      go_simp
      exact unhide hK _ _ ⟨u0, u1, true, u3, u4, true, u6, u7, u8, u9, false, dm, rfl, rfl, zu kB, zu l1, zu l2, (fun h => rfl), (fun h => ⟨(zu l4 h).1, rfl⟩), (fun _ => rfl), (fun h => ⟨rfl, rfl⟩), (fun h => ⟨(zu l7 h).1, rfl⟩), (fun h => ⟨(zu l8 h).1, rfl, (zu l8 h).2.2⟩), (fun h => ⟨(zu l9 h).1, (zu l9 h).2.1, rfl⟩), zf⟩
    · intro h0 hd K hK
      have z : u6 = false := h0
      have z10_ : u10 = false := znb fun hu => z.symm.trans ((zu kF hu).2.2.2.2.2.2.1)
      have zd : u5 = true ∧ u2 = true := by
        simp [Region.binds] at hd
        simp [hd]
      obtain ⟨rfl, rfl⟩ := zd
      subst z10_
      subst z
      clear h0 hd
      rw [if_pos (by rfl)]
      go_simp
      exact unhide hK _ _ ⟨u0, u1, true, u3, u4, true, true, u7, u8, u9, false, dm, rfl, rfl, zu kB, zu l1, zu l2, (fun h => rfl), (fun h => ⟨(zu l4 h).1, rfl⟩), (fun h => rfl), (fun _ => ⟨rfl, rfl⟩), (fun h => ⟨rfl, rfl⟩), (fun h => ⟨(zu l8 h).1, rfl, (zu l8 h).2.2⟩), (fun h => ⟨(zu l9 h).1, (zu l9 h).2.1, rfl⟩), zf⟩
    · intro h0 hd K hK
      have z : u7 = false := h0
      have z10_ : u10 = false := znb fun hu => z.symm.trans ((zu kF hu).2.2.2.2.2.2.2.1)
      have zd : u6 = true ∧ u2 = true := by
        simp [Region.binds] at hd
        simp [hd]
      obtain ⟨rfl, rfl⟩ := zd
      subst z10_
      subst z
      clear h0 hd
      rw [if_pos (by rfl)]
      have c0 := keep1 (zu kB) (unhide HN0)
      have c1 := keep1 (zu kB) (unhide HN1)
      go_simp
      exact unhide hK _ _ ⟨u0, u1, true, u3, u4, u5, true, true, u8, u9, false, dm, rfl, rfl, zu kB, zu l1, zu l2, (fun h => rfl), (fun h => ⟨(zu l4 h).1, rfl⟩), (fun h => rfl), (fun h => ⟨(zu l6 h).1, rfl⟩), (fun _ => ⟨rfl, rfl⟩), (fun h => ⟨rfl, rfl, (zu l8 h).2.2⟩), (fun h => ⟨(zu l9 h).1, (zu l9 h).2.1, rfl⟩), zf⟩
    · intro h0 hd K hK
      have z : u8 = false := h0
      have z10_ : u10 = false := znb fun hu => z.symm.trans ((zu kF hu).2.2.2.2.2.2.2.2.1)
      have zd : u7 = true ∧ u2 = true ∧ u4 = true := by
        simp [Region.binds] at hd
        simp [hd]
      obtain ⟨rfl, rfl, rfl⟩ := zd
      subst z10_
      subst z
      clear h0 hd
      rw [if_pos (by rfl)]
      go_simp
      refine (unhide HF8 W (zu kB)).mono ?_
      rintro e w8 ⟨rfl, hb8⟩
      exact unhide hK _ _ ⟨u0, u1, true, u3, true, u5, u6, true, true, u9, false, dm, rfl, rfl, bc (zu kB) hb8, zu l1, zu l2, (fun h => rfl), (fun h => ⟨(zu l4 h).1, rfl⟩), (fun h => rfl), (fun h => ⟨(zu l6 h).1, rfl⟩), (fun h => ⟨(zu l7 h).1, rfl⟩), (fun _ => ⟨rfl, rfl, rfl⟩), (fun h => ⟨rfl, rfl, rfl⟩), zf⟩
    · intro h0 hd K hK
      have z : u9 = false := h0
      have z10_ : u10 = false := znb fun hu => z.symm.trans ((zu kF hu).2.2.2.2.2.2.2.2.2)
      have zd : u4 = true ∧ u8 = true ∧ u2 = true := by
        simp [Region.binds] at hd
        simp [hd]
      obtain ⟨rfl, rfl, rfl⟩ := zd
      subst z10_
      subst z
      clear h0 hd
      rw [if_pos (by rfl)]
      go_simp
      exact unhide hK _ _ ⟨u0, u1, true, u3, true, u5, u6, u7, true, true, false, dm, rfl, rfl, zu kB, zu l1, zu l2, (fun h => rfl), (fun h => ⟨(zu l4 h).1, rfl⟩), (fun h => rfl), (fun h => ⟨(zu l6 h).1, rfl⟩), (fun h => ⟨(zu l7 h).1, rfl⟩), (fun h => ⟨(zu l8 h).1, rfl, rfl⟩), (fun _ => ⟨rfl, rfl, rfl⟩), zf⟩
    · intro h0 hd K hK
      have z : u10 = false := h0
      have zd0 : u2 = true ∧ u9 = true := by
        simp [Region.binds] at hd
        simp [hd]
      have zd : u2 = true ∧ u9 = true ∧ u0 = true ∧ u1 = true ∧ u3 = true ∧ u4 = true ∧ u5 = true ∧ u6 = true ∧ u7 = true ∧ u8 = true := ⟨zd0.1, zd0.2, (zu l1 (zu l2 zd0.1)), (zu l2 zd0.1), (zu l4 (zu l9 zd0.2).1).1, (zu l9 zd0.2).1, (zu l6 (zu l7 (zu l8 (zu l9 zd0.2).2.1).1).1).1, (zu l7 (zu l8 (zu l9 zd0.2).2.1).1).1, (zu l8 (zu l9 zd0.2).2.1).1, (zu l9 zd0.2).2.1⟩
      obtain ⟨rfl, rfl, rfl, rfl, rfl, rfl, rfl, rfl, rfl, rfl⟩ := zd
      subst z
      clear h0 hd
      rw [if_pos (by rfl)]
      go_simp
      exact unhide hK _ _ ⟨true, true, true, true, true, true, true, true, true, true, true, dm, rfl, rfl, zu kB, (fun _ => rfl), (fun _ => rfl), (fun _ => rfl), (fun _ => ⟨rfl, rfl⟩), (fun _ => rfl), (fun _ => ⟨rfl, rfl⟩), (fun _ => ⟨rfl, rfl⟩), (fun _ => ⟨rfl, rfl, rfl⟩), (fun _ => ⟨rfl, rfl, rfl⟩), (fun _ => ⟨rfl, rfl, rfl, rfl, rfl, rfl, rfl, rfl, rfl, rfl⟩)⟩
  case hend =>
    intro Lb A W hI
    obtain ⟨u0, u1, u2, u3, u4, hI⟩ := hI
    obtain ⟨u5, u6, u7, u8, u9, hI⟩ := hI
    obtain ⟨u10, dm, hI⟩ := hI
    obtain ⟨hLb, hI⟩ := hI
    obtain ⟨hA, hI⟩ := hI
    obtain ⟨kB, hI⟩ := hI
    obtain ⟨l1, hI⟩ := hI
    obtain ⟨l2, hI⟩ := hI
    obtain ⟨l3, hI⟩ := hI
    obtain ⟨l4, hI⟩ := hI
    obtain ⟨l5, hI⟩ := hI
    obtain ⟨l6, hI⟩ := hI
    obtain ⟨l7, hI⟩ := hI
    obtain ⟨l8, hI⟩ := hI
    obtain ⟨l9, hI⟩ := hI
    have kF := hI
    clear hI
    subst hLb
    subst hA
    intro hL
    have hl : u0 = true ∧ u1 = true ∧ u2 = true ∧ u3 = true ∧ u4 = true ∧ u5 = true ∧ u6 = true ∧ u7 = true ∧ u8 = true ∧ u9 = true ∧ u10 = true := by
      have h2 := congrArg Array.toList hL
      simpa [List.replicate] using h2
    obtain ⟨rfl, rfl, rfl, rfl, rfl, rfl, rfl, rfl, rfl, rfl, rfl⟩ := hl
    exact unhide HQ   W kB

set_option maxHeartbeats 4000000 in
set_option maxRecDepth 100000 in
theorem ly4 {s0 s2 s4 s5 s6 s7 s8 s9 s10 s11 s12 s13 s14 s15 s16 s17 s18 s19 s20 s21 s22 s23 s24 s25 s26 s27 s28 s29 s30 s31 s32 s33 s34 s35 s36 s37 s38 s39 s40 s41 s42 s43 s44 s45 s46 s47 s48 s49 s50 s51 s52 s53 s54 s55 s56 : Value} {lb lo ln lc g3 pb ppo np cp j : Nat} {pw ph : Int} {V : World} {K_ : Act → World → Prop} 
    (HL : Hid (V.cell? ⟨lb, lo, none⟩ = some (.int .i64 (j : Int)))) (HP : Hid (V.cell? ⟨g3, 0, none⟩ = some (.slice (some ⟨pb, ppo, none⟩) np cp))) (HP0 : Hid (V.cell? ⟨pb, ppo + j * 2, none⟩ = some (.int .i64 (pw)))) (HP1 : Hid (V.cell? ⟨pb, ppo + j * 2 + 1, none⟩ = some (.int .i64 (ph)))) 
    (HX1 : Hid (0 < ln))
    (HX5 : Hid (0 < ln))
    (HX7 : Hid (j < np))
    (hQ : ∀ (n9 : Nat)  (W1 : World), Below V.heap.size V W1 → vb W1 n9 31 [.int .i64 (pw), .int .i64 (ph)] → V.heap.size ≤ n9 → K_ { tmps := #[s0, .slice (some ⟨lb, lo, none⟩) ln lc, s2, .pointer (some ⟨g3, 0, none⟩), s4, s5, s6, s7, .int .i64 (j : Int), .pointer (some ⟨n9, 0, none⟩), s10, s11, s12, s13, s14, s15, s16, s17, s18, s19, s20, s21, s22, s23, .slice (some ⟨lb, lo, none⟩) ln lc, .pointer (some ⟨lb, lo, none⟩), .int .i64 (j : Int), .slice (some ⟨pb, ppo, none⟩) np cp, .slice (some ⟨lb, lo, none⟩) ln lc, .pointer (some ⟨lb, lo, none⟩), .int .i64 (j : Int), .pointer (some ⟨pb, ppo + j * 2, none⟩), .agg #[.int .i64 (pw), .int .i64 (ph)], s33, s34, s35, s36, s37, s38, s39, s40, s41, s42, s43, s44, s45, s46, s47, s48, s49, s50, s51, s52, s53, s54, s55, s56], defers := [] } W1) :
    Go.Code.wp Try.prog (rg47 4) (Only K_) { tmps := #[s0, .slice (some ⟨lb, lo, none⟩) ln lc, s2, .pointer (some ⟨g3, 0, none⟩), s4, s5, s6, s7, s8, s9, s10, s11, s12, s13, s14, s15, s16, s17, s18, s19, s20, s21, s22, s23, s24, s25, s26, s27, s28, s29, s30, s31, s32, s33, s34, s35, s36, s37, s38, s39, s40, s41, s42, s43, s44, s45, s46, s47, s48, s49, s50, s51, s52, s53, s54, s55, s56], defers := [] } V := by
  have HQ := hide hQ
  clear hQ
  conv => arg 2; whnf
  refine wp_region_inv2 (fun Lb A W => ∃ (u0 u1 u2 u3 u4 u5 u6 u7 u8 u9 u10 u11 : Bool) (n9 : Nat), Lb = #[u0, u1, u2, u3, u4, u5, u6, u7, u8, u9, u10, u11] ∧ A = ({ tmps := #[s0, .slice (some ⟨lb, lo, none⟩) ln lc, s2, .pointer (some ⟨g3, 0, none⟩), s4, s5, s6, s7, (bif u10 then .int .i64 (j : Int) else s8), (bif u9 then .pointer (some ⟨n9, 0, none⟩) else s9), s10, s11, s12, s13, s14, s15, s16, s17, s18, s19, s20, s21, s22, s23, (bif u0 then .slice (some ⟨lb, lo, none⟩) ln lc else s24), (bif u1 then .pointer (some ⟨lb, lo, none⟩) else s25), (bif u2 then .int .i64 (j : Int) else s26), (bif u3 then .slice (some ⟨pb, ppo, none⟩) np cp else s27), (bif u4 then .slice (some ⟨lb, lo, none⟩) ln lc else s28), (bif u5 then .pointer (some ⟨lb, lo, none⟩) else s29), (bif u6 then .int .i64 (j : Int) else s30), (bif u7 then .pointer (some ⟨pb, ppo + j * 2, none⟩) else s31), (bif u8 then .agg #[.int .i64 (pw), .int .i64 (ph)] else s32), s33, s34, s35, s36, s37, s38, s39, s40, s41, s42, s43, s44, s45, s46, s47, s48, s49, s50, s51, s52, s53, s54, s55, s56], defers := [] } : Act) ∧ Below V.heap.size V W ∧ (u9 = true → vb W n9 31 (bif u11 then [.int .i64 (pw), .int .i64 (ph)] else [.int .i64 (0), .int .i64 (0)]) ∧ V.heap.size ≤ n9) ∧ (u11 = true → u0 = true ∧ u1 = true ∧ u2 = true ∧ u3 = true ∧ u4 = true ∧ u5 = true ∧ u6 = true ∧ u7 = true ∧ u8 = true ∧ u9 = true ∧ u10 = true)) (by kernel_rfl) (by kernel_rfl) ?h0 ?hstep ?hend
  case h0 =>
    exact ⟨false, false, false, false, false, false, false, false, false, false, false, false, 0, rfl, rfl, Below.drew (Below.refl _ _), zf, zf⟩
  case hstep =>
    intro Lb A W hI
    obtain ⟨u0, u1, u2, u3, u4, hI⟩ := hI
    obtain ⟨u5, u6, u7, u8, u9, hI⟩ := hI
    obtain ⟨u10, u11, n9, hI⟩ := hI
    obtain ⟨hLb, hI⟩ := hI
    obtain ⟨hA, hI⟩ := hI
    obtain ⟨kB, hI⟩ := hI
    obtain ⟨k9, hI⟩ := hI
    have kF := hI
    clear hI
    subst hLb
    subst hA
    replace kB := hide kB
    replace k9 := hide k9
    replace kF := hide kF
    refine ⟨?_, ?_, ?_, ?_, ?_, ?_, ?_, ?_, ?_, ?_, ?_, ?_, trivial⟩
    · intro h0 hd K hK
      have z : u0 = false := h0
      have z11_ : u11 = false := znb fun hu => z.symm.trans ((zu kF hu).1)
      subst z11_
      subst z
      clear h0 hd
      rw [if_pos (by rfl)]
      go_simp
      exact unhide hK _ _ ⟨true, u1, u2, u3, u4, u5, u6, u7, u8, u9, u10, false, n9, rfl, rfl, zu kB, zu k9, zf⟩
    · intro h0 hd K hK
      have z : u1 = false := h0
      have z11_ : u11 = false := znb fun hu => z.symm.trans ((zu kF hu).2.1)
      have zd : u0 = true := by
        simp [Region.binds] at hd
        simp [hd]
      obtain ⟨rfl⟩ := zd
      subst z11_
      subst z
      clear h0 hd
      rw [if_pos (by rfl)]
      have q1 : 0 < ln := unhide HX1
      have q2 : (0 : Int) < (ln : Int) := by omega
      go_simp
      exact unhide hK _ _ ⟨true, true, u2, u3, u4, u5, u6, u7, u8, u9, u10, false, n9, rfl, rfl, zu kB, zu k9, zf⟩
    · intro h0 hd K hK
      have z : u2 = false := h0
      have z11_ : u11 = false := znb fun hu => z.symm.trans ((zu kF hu).2.2.1)
      have zd : u1 = true := by
        simp [Region.binds] at hd
        simp [hd]
      obtain ⟨rfl⟩ := zd
      subst z11_
      subst z
      clear h0 hd
      rw [if_pos (by rfl)]
      have c0 := keep1 (zu kB) (unhide HL)
      go_simp
      exact unhide hK _ _ ⟨u0, true, true, u3, u4, u5, u6, u7, u8, u9, u10, false, n9, rfl, rfl, zu kB, zu k9, zf⟩
    · intro h0 hd K hK
      have z : u3 = false := h0
      have z11_ : u11 = false := znb fun hu => z.symm.trans ((zu kF hu).2.2.2.1)
      subst z11_
      subst z
      clear h0 hd
      rw [if_pos (by rfl)]
      have c0 := keep1 (zu kB) (unhide HP)
      go_simp
      exact unhide hK _ _ ⟨u0, u1, u2, true, u4, u5, u6, u7, u8, u9, u10, false, n9, rfl, rfl, zu kB, zu k9, zf⟩
    · intro h0 hd K hK
      have z : u4 = false := h0
      have z11_ : u11 = false := znb fun hu => z.symm.trans ((zu kF hu).2.2.2.2.1)
      subst z11_
      subst z
      clear h0 hd
      rw [if_pos (by rfl)]
      go_simp
      exact unhide hK _ _ ⟨u0, u1, u2, u3, true, u5, u6, u7, u8, u9, u10, false, n9, rfl, rfl, zu kB, zu k9, zf⟩
    · intro h0 hd K hK
      have z : u5 = false := h0
      have z11_ : u11 = false := znb fun hu => z.symm.trans ((zu kF hu).2.2.2.2.2.1)
      have zd : u4 = true := by
        simp [Region.binds] at hd
        simp [hd]
      obtain ⟨rfl⟩ := zd
      subst z11_
      subst z
      clear h0 hd
      rw [if_pos (by rfl)]
      have q1 : 0 < ln := unhide HX5
      have q2 : (0 : Int) < (ln : Int) := by omega
      go_simp
      exact unhide hK _ _ ⟨u0, u1, u2, u3, true, true, u6, u7, u8, u9, u10, false, n9, rfl, rfl, zu kB, zu k9, zf⟩
    · intro h0 hd K hK
      have z : u6 = false := h0
      have z11_ : u11 = false := znb fun hu => z.symm.trans ((zu kF hu).2.2.2.2.2.2.1)
      have zd : u5 = true := by
        simp [Region.binds] at hd
        simp [hd]
      obtain ⟨rfl⟩ := zd
      subst z11_
      subst z
      clear h0 hd
      rw [if_pos (by rfl)]
      have c0 := keep1 (zu kB) (unhide HL)
      go_simp
      exact unhide hK _ _ ⟨u0, u1, u2, u3, u4, true, true, u7, u8, u9, u10, false, n9, rfl, rfl, zu kB, zu k9, zf⟩
    · intro h0 hd K hK
      have z : u7 = false := h0
      have z11_ : u11 = false := znb fun hu => z.symm.trans ((zu kF hu).2.2.2.2.2.2.2.1)
      have zd : u3 = true ∧ u6 = true := by
        simp [Region.binds] at hd
        simp [hd]
      obtain ⟨rfl, rfl⟩ := zd
      subst z11_
      subst z
      clear h0 hd
      rw [if_pos (by rfl)]
      have q1 : j < np := unhide HX7
      have q2 : (j : Int) < (np : Int) := by omega
      go_simp
      exact unhide hK _ _ ⟨u0, u1, u2, true, u4, u5, true, true, u8, u9, u10, false, n9, rfl, rfl, zu kB, zu k9, zf⟩
    · intro h0 hd K hK
      have z : u8 = false := h0
      have z11_ : u11 = false := znb fun hu => z.symm.trans ((zu kF hu).2.2.2.2.2.2.2.2.1)
      have zd : u7 = true := by
        simp [Region.binds] at hd
        simp [hd]
      obtain ⟨rfl⟩ := zd
      subst z11_
      subst z
      clear h0 hd
      rw [if_pos (by rfl)]
      have c0 := keep1 (zu kB) (unhide HP0)
      have c1 := keep1 (zu kB) (unhide HP1)
      go_simp
      exact unhide hK _ _ ⟨u0, u1, u2, u3, u4, u5, u6, true, true, u9, u10, false, n9, rfl, rfl, zu kB, zu k9, zf⟩
    · intro h0 hd K hK
      have z : u9 = false := h0
      have z11_ : u11 = false := znb fun hu => z.symm.trans ((zu kF hu).2.2.2.2.2.2.2.2.2.1)
      subst z11_
      subst z
      clear h0 hd
      rw [if_pos (by rfl)]
      go_simp
      exact unhide hK _ _ ⟨u0, u1, u2, u3, u4, u5, u6, u7, u8, true, u10, false, W.heap.size, rfl, rfl, ba (zu kB) _, (fun _ => ⟨vb_new W 31 _ _ rfl, (zu kB).size⟩), zf⟩
    · intro h0 hd K hK
      have z : u10 = false := h0
      have z11_ : u11 = false := znb fun hu => z.symm.trans ((zu kF hu).2.2.2.2.2.2.2.2.2.2)
      have zd : u2 = true ∧ u9 = true := by
        simp [Region.binds] at hd
        simp [hd]
      obtain ⟨rfl, rfl⟩ := zd
      subst z11_
      subst z
      clear h0 hd
      rw [if_pos (by rfl)]
      go_simp
      exact unhide hK _ _ ⟨u0, u1, true, u3, u4, u5, u6, u7, u8, true, true, false, n9, rfl, rfl, zu kB, zu k9, zf⟩
    · intro h0 hd K hK
      have z : u11 = false := h0
      have zd0 : u0 = true ∧ u1 = true ∧ u2 = true ∧ u3 = true ∧ u4 = true ∧ u5 = true ∧ u6 = true ∧ u7 = true ∧ u8 = true ∧ u9 = true ∧ u10 = true := by
        simp [Region.binds] at hd
        simp [hd]
      have zd : u0 = true ∧ u1 = true ∧ u2 = true ∧ u3 = true ∧ u4 = true ∧ u5 = true ∧ u6 = true ∧ u7 = true ∧ u8 = true ∧ u9 = true ∧ u10 = true := ⟨zd0.1, zd0.2.1, zd0.2.2.1, zd0.2.2.2.1, zd0.2.2.2.2.1, zd0.2.2.2.2.2.1, zd0.2.2.2.2.2.2.1, zd0.2.2.2.2.2.2.2.1, zd0.2.2.2.2.2.2.2.2.1, zd0.2.2.2.2.2.2.2.2.2.1, zd0.2.2.2.2.2.2.2.2.2.2⟩
      obtain ⟨rfl, rfl, rfl, rfl, rfl, rfl, rfl, rfl, rfl, rfl, rfl⟩ := zd
      subst z
      clear h0 hd
      rw [if_pos (by rfl)]
      have v1 := (zu k9 rfl).1
      have g9 := (zu k9 rfl).2
      have fz := v1.frozen
      have q0 := v1.cell (m := 0) rfl
      have q1 := v1.cell (m := 1) rfl
      have HV1 := hide v1
      clear v1
      go_simp
      exact unhide hK _ _ ⟨true, true, true, true, true, true, true, true, true, true, true, true, n9, rfl, rfl, (((((zu kB)).setCell (p := ⟨n9, 0, none⟩) g9 _)).setCell (p := ⟨n9, 1, none⟩) g9 _), (fun _ => ⟨(((unhide HV1).set 0 _).set 1 _), g9⟩), (fun _ => ⟨rfl, rfl, rfl, rfl, rfl, rfl, rfl, rfl, rfl, rfl, rfl⟩)⟩
  case hend =>
    intro Lb A W hI
    obtain ⟨u0, u1, u2, u3, u4, hI⟩ := hI
    obtain ⟨u5, u6, u7, u8, u9, hI⟩ := hI
    obtain ⟨u10, u11, n9, hI⟩ := hI
    obtain ⟨hLb, hI⟩ := hI
    obtain ⟨hA, hI⟩ := hI
    obtain ⟨kB, hI⟩ := hI
    obtain ⟨k9, hI⟩ := hI
    have kF := hI
    clear hI
    subst hLb
    subst hA
    intro hL
    have hl : u0 = true ∧ u1 = true ∧ u2 = true ∧ u3 = true ∧ u4 = true ∧ u5 = true ∧ u6 = true ∧ u7 = true ∧ u8 = true ∧ u9 = true ∧ u10 = true ∧ u11 = true := by
      have h2 := congrArg Array.toList hL
      simpa [List.replicate] using h2
    obtain ⟨rfl, rfl, rfl, rfl, rfl, rfl, rfl, rfl, rfl, rfl, rfl, rfl⟩ := hl
    exact unhide HQ n9  W kB (k9 rfl).1 (k9 rfl).2

set_option maxHeartbeats 4000000 in
set_option maxRecDepth 100000 in
theorem ly6a {s0 s2 s3 s4 s7 s10 s11 s12 s13 s14 s15 s16 s17 s18 s19 s20 s21 s22 s23 s24 s25 s26 s27 s28 s29 s30 s31 s32 s33 s34 s35 s36 s37 s38 s39 s40 s41 s42 s43 s44 s45 s46 s47 s48 s49 s50 s51 s52 s53 s54 s55 s56 : Value} {lb lo ln lc g2 g3 g5 g6 g gp j k c : Nat} {u : Option Addr} {L : List Ld} {Wd pw ph : Int} {Z : World → Prop} {V : World} {K_ : Act → World → Prop} 
    (HF : Hid (V.cell? ⟨g6, 0, none⟩ = some (.func (.func 47) #[] #[.pointer (some ⟨g5, 0, none⟩), .pointer (some ⟨g3, 0, none⟩), .pointer (some ⟨g2, 0, none⟩), .pointer (some ⟨g6, 0, none⟩)]))) (HG0 : Hid (V.cell? ⟨g, 0, none⟩ = some (.int .i64 Wd))) (HG1 : Hid (V.cell? ⟨g, 1, none⟩ = some (.slice u k c))) (HP0 : Hid (V.cell? ⟨gp, 0, none⟩ = some (.int .i64 pw))) (HP1 : Hid (V.cell? ⟨gp, 1, none⟩ = some (.int .i64 ph)))
    (HWI : Hid (∀ X, Below V.heap.size V X → Calls Try.prog 23 #[.agg #[.int .i64 Wd, .slice u k c], .int .i64 (j : Int), .agg #[.int .i64 pw, .int .i64 ph], .bool false] X fun e w' => (∃ g cap x y, e = .returned (.agg #[.int .i64 Wd, .slice (some ⟨g, 0, none⟩) (k + 1) cap]) ∧ Low Wd (rcs L) (twd false pw ph) (twd false ph pw) x y ∧ NewL X w' g k cap (L ++ [⟨(j : Int), false, ⟨x, y, twd false pw ph, twd false ph pw⟩⟩])) ∧ Below X.heap.size X w'))
    (HREC : Hid (∀ X g4 c4 x y, Below V.heap.size V X → NewL V X g4 k c4 (L ++ [⟨(j : Int), false, ⟨x, y, twd false pw ph, twd false ph pw⟩⟩]) → Low Wd (rcs L) (twd false pw ph) (twd false ph pw) x y → Calls Try.prog 47 #[.agg #[.int .i64 Wd, .slice (some ⟨g4, 0, none⟩) (k + 1) c4], .slice (some ⟨lb, lo, none⟩) 0 0, .pointer (some ⟨g5, 0, none⟩), .pointer (some ⟨g3, 0, none⟩), .pointer (some ⟨g2, 0, none⟩), .pointer (some ⟨g6, 0, none⟩)] X fun e w' => e = .returned (.tuple #[]) ∧ Z w'))
    (hQ : ∀ (g4 c4 : Nat) (x y : Int) (W9 : World), Z W9 → K_ { tmps := #[s0, .slice (some ⟨lb, lo, none⟩) 1 1, s2, s3, s4, .pointer (some ⟨g6, 0, none⟩), .pointer (some ⟨g, 0, none⟩), s7, .int .i64 (j : Int), .pointer (some ⟨gp, 0, none⟩), s10, s11, s12, s13, s14, s15, s16, s17, s18, s19, s20, s21, s22, s23, s24, s25, s26, s27, s28, s29, s30, s31, s32, s33, s34, s35, s36, .func (.func 47) #[] #[.pointer (some ⟨g5, 0, none⟩), .pointer (some ⟨g3, 0, none⟩), .pointer (some ⟨g2, 0, none⟩), .pointer (some ⟨g6, 0, none⟩)], .agg #[.int .i64 Wd, .slice u k c], .int .i64 (j : Int), .agg #[.int .i64 pw, .int .i64 ph], .agg #[.int .i64 Wd, .slice (some ⟨g4, 0, none⟩) (k + 1) c4], .slice (some ⟨lb, lo, none⟩) 1 1, .slice (some ⟨lb, lo, none⟩) 0 0, .tuple #[], s45, s46, s47, s48, s49, s50, s51, s52, s53, s54, s55, s56], defers := [] } W9) :
    Go.Code.wp Try.prog (rg47 6) (Only K_) { tmps := #[s0, .slice (some ⟨lb, lo, none⟩) 1 1, s2, s3, s4, .pointer (some ⟨g6, 0, none⟩), .pointer (some ⟨g, 0, none⟩), s7, .int .i64 (j : Int), .pointer (some ⟨gp, 0, none⟩), s10, s11, s12, s13, s14, s15, s16, s17, s18, s19, s20, s21, s22, s23, s24, s25, s26, s27, s28, s29, s30, s31, s32, s33, s34, s35, s36, s37, s38, s39, s40, s41, s42, s43, s44, s45, s46, s47, s48, s49, s50, s51, s52, s53, s54, s55, s56], defers := [] } V := by
  have HQ := hide hQ
  clear hQ
  conv => arg 2; whnf
  refine wp_region_inv2 (fun Lb A W => ∃ (u0 u1 u2 u3 u4 u5 u6 u7 : Bool) (g4 : Nat) (c4 : Nat) (x : Int) (y : Int), Lb = #[u0, u1, u2, u3, u4, u5, u6, u7] ∧ A = ({ tmps := #[s0, .slice (some ⟨lb, lo, none⟩) 1 1, s2, s3, s4, .pointer (some ⟨g6, 0, none⟩), .pointer (some ⟨g, 0, none⟩), s7, .int .i64 (j : Int), .pointer (some ⟨gp, 0, none⟩), s10, s11, s12, s13, s14, s15, s16, s17, s18, s19, s20, s21, s22, s23, s24, s25, s26, s27, s28, s29, s30, s31, s32, s33, s34, s35, s36, (bif u0 then .func (.func 47) #[] #[.pointer (some ⟨g5, 0, none⟩), .pointer (some ⟨g3, 0, none⟩), .pointer (some ⟨g2, 0, none⟩), .pointer (some ⟨g6, 0, none⟩)] else s37), (bif u1 then .agg #[.int .i64 Wd, .slice u k c] else s38), (bif u2 then .int .i64 (j : Int) else s39), (bif u3 then .agg #[.int .i64 pw, .int .i64 ph] else s40), (bif u4 then .agg #[.int .i64 Wd, .slice (some ⟨g4, 0, none⟩) (k + 1) c4] else s41), (bif u5 then .slice (some ⟨lb, lo, none⟩) 1 1 else s42), (bif u6 then .slice (some ⟨lb, lo, none⟩) 0 0 else s43), (bif u7 then .tuple #[] else s44), s45, s46, s47, s48, s49, s50, s51, s52, s53, s54, s55, s56], defers := [] } : Act) ∧ (u7 = false → Below V.heap.size V W) ∧ (u4 = true → u7 = false → NewL V W g4 k c4 (L ++ [⟨(j : Int), false, ⟨x, y, twd false pw ph, twd false ph pw⟩⟩]) ∧ Low Wd (rcs L) (twd false pw ph) (twd false ph pw) x y) ∧ (u7 = true → Z W) ∧ (u4 = true → u1 = true ∧ u2 = true ∧ u3 = true) ∧ (u6 = true → u5 = true) ∧ (u7 = true → u0 = true ∧ u1 = true ∧ u2 = true ∧ u3 = true ∧ u4 = true ∧ u5 = true ∧ u6 = true)) (by kernel_rfl) (by kernel_rfl) ?h0 ?hstep ?hend
  case h0 =>
    exact ⟨false, false, false, false, false, false, false, false, 0, 0, 0, 0, rfl, rfl, (fun _ => Below.drew (Below.refl _ _)), zf, zf, zf, zf, zf⟩
  case hstep =>
    intro Lb A W hI
    obtain ⟨u0, u1, u2, u3, u4, hI⟩ := hI
    obtain ⟨u5, u6, u7, g4, c4, hI⟩ := hI
    obtain ⟨x, y, hI⟩ := hI
    obtain ⟨hLb, hI⟩ := hI
    obtain ⟨hA, hI⟩ := hI
    obtain ⟨kB, hI⟩ := hI
    obtain ⟨k4, hI⟩ := hI
    obtain ⟨kZ, hI⟩ := hI
    obtain ⟨l4, hI⟩ := hI
    obtain ⟨l6, hI⟩ := hI
    have kF := hI
    clear hI
    subst hLb
    subst hA
    replace kB := hide kB
    replace k4 := hide k4
    replace kZ := hide kZ
    replace l4 := hide l4
    replace l6 := hide l6
    replace kF := hide kF
    refine ⟨?_, ?_, ?_, ?_, ?_, ?_, ?_, ?_, trivial⟩
    · intro h0 hd K hK
      have z : u0 = false := h0
      have z7_ : u7 = false := znb fun hu => z.symm.trans ((zu kF hu).1)
      subst z7_
      subst z
      clear h0 hd
      rw [if_pos (by rfl)]
      have c0 := keep1 (zu kB rfl) (unhide HF)
      go_simp
      exact unhide hK _ _ ⟨true, u1, u2, u3, u4, u5, u6, false, g4, c4, x, y, rfl, rfl, zu kB, zu k4, zf, zu l4, zu l6, zf⟩
    · intro h0 hd K hK
      have z : u1 = false := h0
      have z7_ : u7 = false := znb fun hu => z.symm.trans ((zu kF hu).2.1)
      have z4_ : u4 = false := znb fun hu => z.symm.trans ((zu l4 hu).1)
      subst z7_
      subst z4_
      subst z
      clear h0 hd
      rw [if_pos (by rfl)]
      have c0 := keep1 (zu kB rfl) (unhide HG0)
      have c1 := keep1 (zu kB rfl) (unhide HG1)
      go_simp
      exact unhide hK _ _ ⟨u0, true, u2, u3, false, u5, u6, false, g4, c4, x, y, rfl, rfl, zu kB, zf, zf, zf, zu l6, zf⟩
    · intro h0 hd K hK
      have z : u2 = false := h0
      have z7_ : u7 = false := znb fun hu => z.symm.trans ((zu kF hu).2.2.1)
      have z4_ : u4 = false := znb fun hu => z.symm.trans ((zu l4 hu).2.1)
      subst z7_
      subst z4_
      subst z
      clear h0 hd
      rw [if_pos (by rfl)]
      go_simp
      exact unhide hK _ _ ⟨u0, u1, true, u3, false, u5, u6, false, g4, c4, x, y, rfl, rfl, zu kB, zf, zf, zf, zu l6, zf⟩
    · intro h0 hd K hK
      have z : u3 = false := h0
      have z7_ : u7 = false := znb fun hu => z.symm.trans ((zu kF hu).2.2.2.1)
      have z4_ : u4 = false := znb fun hu => z.symm.trans ((zu l4 hu).2.2)
      subst z7_
      subst z4_
      subst z
      clear h0 hd
      rw [if_pos (by rfl)]
      have c0 := keep1 (zu kB rfl) (unhide HP0)
      have c1 := keep1 (zu kB rfl) (unhide HP1)
      go_simp
      exact unhide hK _ _ ⟨u0, u1, u2, true, false, u5, u6, false, g4, c4, x, y, rfl, rfl, zu kB, zf, zf, zf, zu l6, zf⟩
    · intro h0 hd K hK
      have z : u4 = false := h0
      have z7_ : u7 = false := znb fun hu => z.symm.trans ((zu kF hu).2.2.2.2.1)
      have zd : u1 = true ∧ u2 = true ∧ u3 = true := by
        simp [Region.binds] at hd
        simp [hd]
      obtain ⟨rfl, rfl, rfl⟩ := zd
      subst z7_
      subst z
      clear h0 hd
      rw [if_pos (by rfl)]
      go_simp
      refine (unhide HWI W (zu kB rfl)).mono ?_
      rintro e w8 ⟨⟨ga, ca, xa, ya, rfl, hlow8, hnew8⟩, hb8⟩
      exact unhide hK _ _ ⟨u0, true, true, true, true, u5, u6, false, ga, ca, xa, ya, rfl, rfl, (fun _ => bc (zu kB rfl) hb8), (fun _ _ => ⟨⟨hnew8.lt, Nat.le_trans (zu kB rfl).size hnew8.ge, hnew8.ca, hnew8.cm, hnew8.cl⟩, hlow8⟩), zf, (fun _ => ⟨rfl, rfl, rfl⟩), zu l6, zf⟩
    · intro h0 hd K hK
      have z : u5 = false := h0
      have z7_ : u7 = false := znb fun hu => z.symm.trans ((zu kF hu).2.2.2.2.2.1)
      subst z7_
      subst z
      clear h0 hd
      rw [if_pos (by rfl)]
      go_simp
      exact unhide hK _ _ ⟨u0, u1, u2, u3, u4, true, u6, false, g4, c4, x, y, rfl, rfl, zu kB, zu k4, zf, zu l4, (fun h => rfl), zf⟩
    · intro h0 hd K hK
      have z : u6 = false := h0
      have z7_ : u7 = false := znb fun hu => z.symm.trans ((zu kF hu).2.2.2.2.2.2)
      have zd : u5 = true := by
        simp [Region.binds] at hd
        simp [hd]
      obtain ⟨rfl⟩ := zd
      subst z7_
      subst z
      clear h0 hd
      rw [if_pos (by rfl)]
      go_simp
      exact unhide hK _ _ ⟨u0, u1, u2, u3, u4, true, true, false, g4, c4, x, y, rfl, rfl, zu kB, zu k4, zf, zu l4, (fun _ => rfl), zf⟩
    · intro h0 hd K hK
      have z : u7 = false := h0
      have zd0 : u0 = true ∧ u4 = true ∧ u6 = true := by
        simp [Region.binds] at hd
        simp [hd]
      have zd : u0 = true ∧ u4 = true ∧ u6 = true ∧ u1 = true ∧ u2 = true ∧ u3 = true ∧ u5 = true := ⟨zd0.1, zd0.2.1, zd0.2.2, (zu l4 zd0.2.1).1, (zu l4 zd0.2.1).2.1, (zu l4 zd0.2.1).2.2, (zu l6 zd0.2.2)⟩
      obtain ⟨rfl, rfl, rfl, rfl, rfl, rfl, rfl⟩ := zd
      subst z
      clear h0 hd
      rw [if_pos (by rfl)]
      have h4 := zu k4 rfl rfl
      have hb := (zu kB rfl)
      go_simp
      refine (unhide HREC W _ _ _ _ hb h4.1 h4.2).mono ?_
      rintro e w8 ⟨rfl, hz8⟩
      exact unhide hK _ _ ⟨true, true, true, true, true, true, true, true, g4, c4, x, y, rfl, rfl, zt, (fun _ => zt), (fun _ => hz8), (fun _ => ⟨rfl, rfl, rfl⟩), (fun _ => rfl), (fun _ => ⟨rfl, rfl, rfl, rfl, rfl, rfl, rfl⟩)⟩
  case hend =>
    intro Lb A W hI
    obtain ⟨u0, u1, u2, u3, u4, hI⟩ := hI
    obtain ⟨u5, u6, u7, g4, c4, hI⟩ := hI
    obtain ⟨x, y, hI⟩ := hI
    obtain ⟨hLb, hI⟩ := hI
    obtain ⟨hA, hI⟩ := hI
    obtain ⟨kB, hI⟩ := hI
    obtain ⟨k4, hI⟩ := hI
    obtain ⟨kZ, hI⟩ := hI
    obtain ⟨l4, hI⟩ := hI
    obtain ⟨l6, hI⟩ := hI
    have kF := hI
    clear hI
    subst hLb
    subst hA
    intro hL
    have hl : u0 = true ∧ u1 = true ∧ u2 = true ∧ u3 = true ∧ u4 = true ∧ u5 = true ∧ u6 = true ∧ u7 = true := by
      have h2 := congrArg Array.toList hL
      simpa [List.replicate] using h2
    obtain ⟨rfl, rfl, rfl, rfl, rfl, rfl, rfl, rfl⟩ := hl
    exact unhide HQ g4 c4 x y W (kZ rfl)

set_option maxHeartbeats 4000000 in
set_option maxRecDepth 100000 in
theorem ly6b {s0 s2 s3 s4 s7 s10 s11 s12 s13 s14 s15 s16 s17 s18 s19 s20 s21 s22 s23 s24 s25 s26 s27 s28 s29 s30 s31 s32 s33 s34 s35 s36 s37 s38 s39 s40 s41 s42 s43 s44 s45 s46 s47 s48 s49 s50 s51 s52 s53 s54 s55 s56 : Value} {lb lo ln lc g2 g3 g5 g6 g gp j k c : Nat} {u : Option Addr} {L : List Ld} {Wd pw ph : Int} {Z : World → Prop} {V : World} {K_ : Act → World → Prop} (HX1 : Hid (1 ≤ ln)) (HX2 : Hid (ln ≤ lc)) (HX3 : Hid (¬ lc = 1))
    (HF : Hid (V.cell? ⟨g6, 0, none⟩ = some (.func (.func 47) #[] #[.pointer (some ⟨g5, 0, none⟩), .pointer (some ⟨g3, 0, none⟩), .pointer (some ⟨g2, 0, none⟩), .pointer (some ⟨g6, 0, none⟩)]))) (HG0 : Hid (V.cell? ⟨g, 0, none⟩ = some (.int .i64 Wd))) (HG1 : Hid (V.cell? ⟨g, 1, none⟩ = some (.slice u k c))) (HP0 : Hid (V.cell? ⟨gp, 0, none⟩ = some (.int .i64 pw))) (HP1 : Hid (V.cell? ⟨gp, 1, none⟩ = some (.int .i64 ph)))
    (HWI : Hid (∀ X, Below V.heap.size V X → Calls Try.prog 23 #[.agg #[.int .i64 Wd, .slice u k c], .int .i64 (j : Int), .agg #[.int .i64 pw, .int .i64 ph], .bool false] X fun e w' => (∃ g cap x y, e = .returned (.agg #[.int .i64 Wd, .slice (some ⟨g, 0, none⟩) (k + 1) cap]) ∧ Low Wd (rcs L) (twd false pw ph) (twd false ph pw) x y ∧ NewL X w' g k cap (L ++ [⟨(j : Int), false, ⟨x, y, twd false pw ph, twd false ph pw⟩⟩])) ∧ Below X.heap.size X w'))
    (HREC : Hid (∀ X g4 c4 x y, Below V.heap.size V X → NewL V X g4 k c4 (L ++ [⟨(j : Int), false, ⟨x, y, twd false pw ph, twd false ph pw⟩⟩]) → Low Wd (rcs L) (twd false pw ph) (twd false ph pw) x y → Calls Try.prog 47 #[.agg #[.int .i64 Wd, .slice (some ⟨g4, 0, none⟩) (k + 1) c4], .slice (some ⟨lb, lo + 1, none⟩) (ln - 1) (lc - 1), .pointer (some ⟨g5, 0, none⟩), .pointer (some ⟨g3, 0, none⟩), .pointer (some ⟨g2, 0, none⟩), .pointer (some ⟨g6, 0, none⟩)] X fun e w' => e = .returned (.tuple #[]) ∧ Z w'))
    (hQ : ∀ (g4 c4 : Nat) (x y : Int) (W9 : World), Z W9 → K_ { tmps := #[s0, .slice (some ⟨lb, lo, none⟩) ln lc, s2, s3, s4, .pointer (some ⟨g6, 0, none⟩), .pointer (some ⟨g, 0, none⟩), s7, .int .i64 (j : Int), .pointer (some ⟨gp, 0, none⟩), s10, s11, s12, s13, s14, s15, s16, s17, s18, s19, s20, s21, s22, s23, s24, s25, s26, s27, s28, s29, s30, s31, s32, s33, s34, s35, s36, .func (.func 47) #[] #[.pointer (some ⟨g5, 0, none⟩), .pointer (some ⟨g3, 0, none⟩), .pointer (some ⟨g2, 0, none⟩), .pointer (some ⟨g6, 0, none⟩)], .agg #[.int .i64 Wd, .slice u k c], .int .i64 (j : Int), .agg #[.int .i64 pw, .int .i64 ph], .agg #[.int .i64 Wd, .slice (some ⟨g4, 0, none⟩) (k + 1) c4], .slice (some ⟨lb, lo, none⟩) ln lc, .slice (some ⟨lb, lo + 1, none⟩) (ln - 1) (lc - 1), .tuple #[], s45, s46, s47, s48, s49, s50, s51, s52, s53, s54, s55, s56], defers := [] } W9) :
    Go.Code.wp Try.prog (rg47 6) (Only K_) { tmps := #[s0, .slice (some ⟨lb, lo, none⟩) ln lc, s2, s3, s4, .pointer (some ⟨g6, 0, none⟩), .pointer (some ⟨g, 0, none⟩), s7, .int .i64 (j : Int), .pointer (some ⟨gp, 0, none⟩), s10, s11, s12, s13, s14, s15, s16, s17, s18, s19, s20, s21, s22, s23, s24, s25, s26, s27, s28, s29, s30, s31, s32, s33, s34, s35, s36, s37, s38, s39, s40, s41, s42, s43, s44, s45, s46, s47, s48, s49, s50, s51, s52, s53, s54, s55, s56], defers := [] } V := by
  have HQ := hide hQ
  clear hQ
  conv => arg 2; whnf
  refine wp_region_inv2 (fun Lb A W => ∃ (u0 u1 u2 u3 u4 u5 u6 u7 : Bool) (g4 : Nat) (c4 : Nat) (x : Int) (y : Int), Lb = #[u0, u1, u2, u3, u4, u5, u6, u7] ∧ A = ({ tmps := #[s0, .slice (some ⟨lb, lo, none⟩) ln lc, s2, s3, s4, .pointer (some ⟨g6, 0, none⟩), .pointer (some ⟨g, 0, none⟩), s7, .int .i64 (j : Int), .pointer (some ⟨gp, 0, none⟩), s10, s11, s12, s13, s14, s15, s16, s17, s18, s19, s20, s21, s22, s23, s24, s25, s26, s27, s28, s29, s30, s31, s32, s33, s34, s35, s36, (bif u0 then .func (.func 47) #[] #[.pointer (some ⟨g5, 0, none⟩), .pointer (some ⟨g3, 0, none⟩), .pointer (some ⟨g2, 0, none⟩), .pointer (some ⟨g6, 0, none⟩)] else s37), (bif u1 then .agg #[.int .i64 Wd, .slice u k c] else s38), (bif u2 then .int .i64 (j : Int) else s39), (bif u3 then .agg #[.int .i64 pw, .int .i64 ph] else s40), (bif u4 then .agg #[.int .i64 Wd, .slice (some ⟨g4, 0, none⟩) (k + 1) c4] else s41), (bif u5 then .slice (some ⟨lb, lo, none⟩) ln lc else s42), (bif u6 then .slice (some ⟨lb, lo + 1, none⟩) (ln - 1) (lc - 1) else s43), (bif u7 then .tuple #[] else s44), s45, s46, s47, s48, s49, s50, s51, s52, s53, s54, s55, s56], defers := [] } : Act) ∧ (u7 = false → Below V.heap.size V W) ∧ (u4 = true → u7 = false → NewL V W g4 k c4 (L ++ [⟨(j : Int), false, ⟨x, y, twd false pw ph, twd false ph pw⟩⟩]) ∧ Low Wd (rcs L) (twd false pw ph) (twd false ph pw) x y) ∧ (u7 = true → Z W) ∧ (u4 = true → u1 = true ∧ u2 = true ∧ u3 = true) ∧ (u6 = true → u5 = true) ∧ (u7 = true → u0 = true ∧ u1 = true ∧ u2 = true ∧ u3 = true ∧ u4 = true ∧ u5 = true ∧ u6 = true)) (by kernel_rfl) (by kernel_rfl) ?h0 ?hstep ?hend
  case h0 =>
    exact ⟨false, false, false, false, false, false, false, false, 0, 0, 0, 0, rfl, rfl, (fun _ => Below.drew (Below.refl _ _)), zf, zf, zf, zf, zf⟩
  case hstep =>
    intro Lb A W hI
    obtain ⟨u0, u1, u2, u3, u4, hI⟩ := hI
    obtain ⟨u5, u6, u7, g4, c4, hI⟩ := hI
    obtain ⟨x, y, hI⟩ := hI
    obtain ⟨hLb, hI⟩ := hI
    obtain ⟨hA, hI⟩ := hI
    obtain ⟨kB, hI⟩ := hI
    obtain ⟨k4, hI⟩ := hI
    obtain ⟨kZ, hI⟩ := hI
    obtain ⟨l4, hI⟩ := hI
    obtain ⟨l6, hI⟩ := hI
    have kF := hI
    clear hI
    subst hLb
    subst hA
    replace kB := hide kB
    replace k4 := hide k4
    replace kZ := hide kZ
    replace l4 := hide l4
    replace l6 := hide l6
    replace kF := hide kF
    refine ⟨?_, ?_, ?_, ?_, ?_, ?_, ?_, ?_, trivial⟩
    · intro h0 hd K hK
      have z : u0 = false := h0
      have z7_ : u7 = false := znb fun hu => z.symm.trans ((zu kF hu).1)
      subst z7_
      subst z
      clear h0 hd
      rw [if_pos (by rfl)]
      have c0 := keep1 (zu kB rfl) (unhide HF)
      go_simp
      exact unhide hK _ _ ⟨true, u1, u2, u3, u4, u5, u6, false, g4, c4, x, y, rfl, rfl, zu kB, zu k4, zf, zu l4, zu l6, zf⟩
    · intro h0 hd K hK
      have z : u1 = false := h0
      have z7_ : u7 = false := znb fun hu => z.symm.trans ((zu kF hu).2.1)
      have z4_ : u4 = false := znb fun hu => z.symm.trans ((zu l4 hu).1)
      subst z7_
      subst z4_
      subst z
      clear h0 hd
      rw [if_pos (by rfl)]
      have c0 := keep1 (zu kB rfl) (unhide HG0)
      have c1 := keep1 (zu kB rfl) (unhide HG1)
      go_simp
      exact unhide hK _ _ ⟨u0, true, u2, u3, false, u5, u6, false, g4, c4, x, y, rfl, rfl, zu kB, zf, zf, zf, zu l6, zf⟩
    · intro h0 hd K hK
      have z : u2 = false := h0
      have z7_ : u7 = false := znb fun hu => z.symm.trans ((zu kF hu).2.2.1)
      have z4_ : u4 = false := znb fun hu => z.symm.trans ((zu l4 hu).2.1)
      subst z7_
      subst z4_
      subst z
      clear h0 hd
      rw [if_pos (by rfl)]
      go_simp
      exact unhide hK _ _ ⟨u0, u1, true, u3, false, u5, u6, false, g4, c4, x, y, rfl, rfl, zu kB, zf, zf, zf, zu l6, zf⟩
    · intro h0 hd K hK
      have z : u3 = false := h0
      have z7_ : u7 = false := znb fun hu => z.symm.trans ((zu kF hu).2.2.2.1)
      have z4_ : u4 = false := znb fun hu => z.symm.trans ((zu l4 hu).2.2)
      subst z7_
      subst z4_
      subst z
      clear h0 hd
      rw [if_pos (by rfl)]
      have c0 := keep1 (zu kB rfl) (unhide HP0)
      have c1 := keep1 (zu kB rfl) (unhide HP1)
      go_simp
      exact unhide hK _ _ ⟨u0, u1, u2, true, false, u5, u6, false, g4, c4, x, y, rfl, rfl, zu kB, zf, zf, zf, zu l6, zf⟩
    · intro h0 hd K hK
      have z : u4 = false := h0
      have z7_ : u7 = false := znb fun hu => z.symm.trans ((zu kF hu).2.2.2.2.1)
      have zd : u1 = true ∧ u2 = true ∧ u3 = true := by
        simp [Region.binds] at hd
        simp [hd]
      obtain ⟨rfl, rfl, rfl⟩ := zd
      subst z7_
      subst z
      clear h0 hd
      rw [if_pos (by rfl)]
      go_simp
      refine (unhide HWI W (zu kB rfl)).mono ?_
      rintro e w8 ⟨⟨ga, ca, xa, ya, rfl, hlow8, hnew8⟩, hb8⟩
      exact unhide hK _ _ ⟨u0, true, true, true, true, u5, u6, false, ga, ca, xa, ya, rfl, rfl, (fun _ => bc (zu kB rfl) hb8), (fun _ _ => ⟨⟨hnew8.lt, Nat.le_trans (zu kB rfl).size hnew8.ge, hnew8.ca, hnew8.cm, hnew8.cl⟩, hlow8⟩), zf, (fun _ => ⟨rfl, rfl, rfl⟩), zu l6, zf⟩
    · intro h0 hd K hK
      have z : u5 = false := h0
      have z7_ : u7 = false := znb fun hu => z.symm.trans ((zu kF hu).2.2.2.2.2.1)
      subst z7_
      subst z
      clear h0 hd
      rw [if_pos (by rfl)]
      go_simp
      exact unhide hK _ _ ⟨u0, u1, u2, u3, u4, true, u6, false, g4, c4, x, y, rfl, rfl, zu kB, zu k4, zf, zu l4, (fun h => rfl), zf⟩
    · intro h0 hd K hK
      have z : u6 = false := h0
      have z7_ : u7 = false := znb fun hu => z.symm.trans ((zu kF hu).2.2.2.2.2.2)
      have zd : u5 = true := by
        simp [Region.binds] at hd
        simp [hd]
      obtain ⟨rfl⟩ := zd
      subst z7_
      subst z
      clear h0 hd
      rw [if_pos (by rfl)]
      have q1 : 1 ≤ ln := unhide HX1
      have q2 : ln ≤ lc := unhide HX2
      have q3 : ¬ lc = 1 := unhide HX3
      have q4 : (1 : Int) ≤ (ln : Int) := by omega
      have q5 : (1 : Int) ≤ (lc : Int) := by omega
      have q6 : (ln : Int) ≤ (lc : Int) := by omega
      go_simp
      exact unhide hK _ _ ⟨u0, u1, u2, u3, u4, true, true, false, g4, c4, x, y, rfl, rfl, zu kB, zu k4, zf, zu l4, (fun _ => rfl), zf⟩
    · intro h0 hd K hK
      have z : u7 = false := h0
      have zd0 : u0 = true ∧ u4 = true ∧ u6 = true := by
        simp [Region.binds] at hd
        simp [hd]
      have zd : u0 = true ∧ u4 = true ∧ u6 = true ∧ u1 = true ∧ u2 = true ∧ u3 = true ∧ u5 = true := ⟨zd0.1, zd0.2.1, zd0.2.2, (zu l4 zd0.2.1).1, (zu l4 zd0.2.1).2.1, (zu l4 zd0.2.1).2.2, (zu l6 zd0.2.2)⟩
      obtain ⟨rfl, rfl, rfl, rfl, rfl, rfl, rfl⟩ := zd
      subst z
      clear h0 hd
      rw [if_pos (by rfl)]
      have h4 := zu k4 rfl rfl
      have hb := (zu kB rfl)
      go_simp
      refine (unhide HREC W _ _ _ _ hb h4.1 h4.2).mono ?_
      rintro e w8 ⟨rfl, hz8⟩
      exact unhide hK _ _ ⟨true, true, true, true, true, true, true, true, g4, c4, x, y, rfl, rfl, zt, (fun _ => zt), (fun _ => hz8), (fun _ => ⟨rfl, rfl, rfl⟩), (fun _ => rfl), (fun _ => ⟨rfl, rfl, rfl, rfl, rfl, rfl, rfl⟩)⟩
  case hend =>
    intro Lb A W hI
    obtain ⟨u0, u1, u2, u3, u4, hI⟩ := hI
    obtain ⟨u5, u6, u7, g4, c4, hI⟩ := hI
    obtain ⟨x, y, hI⟩ := hI
    obtain ⟨hLb, hI⟩ := hI
    obtain ⟨hA, hI⟩ := hI
    obtain ⟨kB, hI⟩ := hI
    obtain ⟨k4, hI⟩ := hI
    obtain ⟨kZ, hI⟩ := hI
    obtain ⟨l4, hI⟩ := hI
    obtain ⟨l6, hI⟩ := hI
    have kF := hI
    clear hI
    subst hLb
    subst hA
    intro hL
    have hl : u0 = true ∧ u1 = true ∧ u2 = true ∧ u3 = true ∧ u4 = true ∧ u5 = true ∧ u6 = true ∧ u7 = true := by
      have h2 := congrArg Array.toList hL
      simpa [List.replicate] using h2
    obtain ⟨rfl, rfl, rfl, rfl, rfl, rfl, rfl, rfl⟩ := hl
    exact unhide HQ g4 c4 x y W (kZ rfl)

set_option maxHeartbeats 4000000 in
set_option maxRecDepth 100000 in
theorem ly8a {s0 s2 s3 s4 s7 s10 s11 s12 s13 s14 s15 s16 s17 s18 s19 s20 s21 s22 s23 s24 s25 s26 s27 s28 s29 s30 s31 s32 s33 s34 s35 s36 s37 s38 s39 s40 s41 s42 s43 s44 s45 s46 s47 s48 s49 s50 s51 s52 s53 s54 s55 s56 : Value} {lb lo ln lc g2 g3 g5 g6 g gp j k c : Nat} {u : Option Addr} {L : List Ld} {Wd pw ph : Int} {Z : World → Prop} {V : World} {K_ : Act → World → Prop} 
    (HF : Hid (V.cell? ⟨g6, 0, none⟩ = some (.func (.func 47) #[] #[.pointer (some ⟨g5, 0, none⟩), .pointer (some ⟨g3, 0, none⟩), .pointer (some ⟨g2, 0, none⟩), .pointer (some ⟨g6, 0, none⟩)]))) (HG0 : Hid (V.cell? ⟨g, 0, none⟩ = some (.int .i64 Wd))) (HG1 : Hid (V.cell? ⟨g, 1, none⟩ = some (.slice u k c))) (HP0 : Hid (V.cell? ⟨gp, 0, none⟩ = some (.int .i64 pw))) (HP1 : Hid (V.cell? ⟨gp, 1, none⟩ = some (.int .i64 ph)))
    (HWI : Hid (∀ X, Below V.heap.size V X → Calls Try.prog 23 #[.agg #[.int .i64 Wd, .slice u k c], .int .i64 (j : Int), .agg #[.int .i64 pw, .int .i64 ph], .bool true] X fun e w' => (∃ g cap x y, e = .returned (.agg #[.int .i64 Wd, .slice (some ⟨g, 0, none⟩) (k + 1) cap]) ∧ Low Wd (rcs L) (twd true pw ph) (twd true ph pw) x y ∧ NewL X w' g k cap (L ++ [⟨(j : Int), true, ⟨x, y, twd true pw ph, twd true ph pw⟩⟩])) ∧ Below X.heap.size X w'))
    (HREC : Hid (∀ X g4 c4 x y, Below V.heap.size V X → NewL V X g4 k c4 (L ++ [⟨(j : Int), true, ⟨x, y, twd true pw ph, twd true ph pw⟩⟩]) → Low Wd (rcs L) (twd true pw ph) (twd true ph pw) x y → Calls Try.prog 47 #[.agg #[.int .i64 Wd, .slice (some ⟨g4, 0, none⟩) (k + 1) c4], .slice (some ⟨lb, lo, none⟩) 0 0, .pointer (some ⟨g5, 0, none⟩), .pointer (some ⟨g3, 0, none⟩), .pointer (some ⟨g2, 0, none⟩), .pointer (some ⟨g6, 0, none⟩)] X fun e w' => e = .returned (.tuple #[]) ∧ Z w'))
    (hQ : ∀ (g4 c4 : Nat) (x y : Int) (W9 : World), Z W9 → K_ { tmps := #[s0, .slice (some ⟨lb, lo, none⟩) 1 1, s2, s3, s4, .pointer (some ⟨g6, 0, none⟩), .pointer (some ⟨g, 0, none⟩), s7, .int .i64 (j : Int), .pointer (some ⟨gp, 0, none⟩), s10, s11, s12, s13, s14, s15, s16, s17, s18, s19, s20, s21, s22, s23, s24, s25, s26, s27, s28, s29, s30, s31, s32, s33, s34, s35, s36, s37, s38, s39, s40, s41, s42, s43, s44, s45, s46, s47, s48, .func (.func 47) #[] #[.pointer (some ⟨g5, 0, none⟩), .pointer (some ⟨g3, 0, none⟩), .pointer (some ⟨g2, 0, none⟩), .pointer (some ⟨g6, 0, none⟩)], .agg #[.int .i64 Wd, .slice u k c], .int .i64 (j : Int), .agg #[.int .i64 pw, .int .i64 ph], .agg #[.int .i64 Wd, .slice (some ⟨g4, 0, none⟩) (k + 1) c4], .slice (some ⟨lb, lo, none⟩) 1 1, .slice (some ⟨lb, lo, none⟩) 0 0, .tuple #[]], defers := [] } W9) :
    Go.Code.wp Try.prog (rg47 8) (Only K_) { tmps := #[s0, .slice (some ⟨lb, lo, none⟩) 1 1, s2, s3, s4, .pointer (some ⟨g6, 0, none⟩), .pointer (some ⟨g, 0, none⟩), s7, .int .i64 (j : Int), .pointer (some ⟨gp, 0, none⟩), s10, s11, s12, s13, s14, s15, s16, s17, s18, s19, s20, s21, s22, s23, s24, s25, s26, s27, s28, s29, s30, s31, s32, s33, s34, s35, s36, s37, s38, s39, s40, s41, s42, s43, s44, s45, s46, s47, s48, s49, s50, s51, s52, s53, s54, s55, s56], defers := [] } V := by
  have HQ := hide hQ
  clear hQ
  conv => arg 2; whnf
  refine wp_region_inv2 (fun Lb A W => ∃ (u0 u1 u2 u3 u4 u5 u6 u7 : Bool) (g4 : Nat) (c4 : Nat) (x : Int) (y : Int), Lb = #[u0, u1, u2, u3, u4, u5, u6, u7] ∧ A = ({ tmps := #[s0, .slice (some ⟨lb, lo, none⟩) 1 1, s2, s3, s4, .pointer (some ⟨g6, 0, none⟩), .pointer (some ⟨g, 0, none⟩), s7, .int .i64 (j : Int), .pointer (some ⟨gp, 0, none⟩), s10, s11, s12, s13, s14, s15, s16, s17, s18, s19, s20, s21, s22, s23, s24, s25, s26, s27, s28, s29, s30, s31, s32, s33, s34, s35, s36, s37, s38, s39, s40, s41, s42, s43, s44, s45, s46, s47, s48, (bif u0 then .func (.func 47) #[] #[.pointer (some ⟨g5, 0, none⟩), .pointer (some ⟨g3, 0, none⟩), .pointer (some ⟨g2, 0, none⟩), .pointer (some ⟨g6, 0, none⟩)] else s49), (bif u1 then .agg #[.int .i64 Wd, .slice u k c] else s50), (bif u2 then .int .i64 (j : Int) else s51), (bif u3 then .agg #[.int .i64 pw, .int .i64 ph] else s52), (bif u4 then .agg #[.int .i64 Wd, .slice (some ⟨g4, 0, none⟩) (k + 1) c4] else s53), (bif u5 then .slice (some ⟨lb, lo, none⟩) 1 1 else s54), (bif u6 then .slice (some ⟨lb, lo, none⟩) 0 0 else s55), (bif u7 then .tuple #[] else s56)], defers := [] } : Act) ∧ (u7 = false → Below V.heap.size V W) ∧ (u4 = true → u7 = false → NewL V W g4 k c4 (L ++ [⟨(j : Int), true, ⟨x, y, twd true pw ph, twd true ph pw⟩⟩]) ∧ Low Wd (rcs L) (twd true pw ph) (twd true ph pw) x y) ∧ (u7 = true → Z W) ∧ (u4 = true → u1 = true ∧ u2 = true ∧ u3 = true) ∧ (u6 = true → u5 = true) ∧ (u7 = true → u0 = true ∧ u1 = true ∧ u2 = true ∧ u3 = true ∧ u4 = true ∧ u5 = true ∧ u6 = true)) (by kernel_rfl) (by kernel_rfl) ?h0 ?hstep ?hend
  case h0 =>
    exact ⟨false, false, false, false, false, false, false, false, 0, 0, 0, 0, rfl, rfl, (fun _ => Below.drew (Below.refl _ _)), zf, zf, zf, zf, zf⟩
  case hstep =>
    intro Lb A W hI
    obtain ⟨u0, u1, u2, u3, u4, hI⟩ := hI
    obtain ⟨u5, u6, u7, g4, c4, hI⟩ := hI
    obtain ⟨x, y, hI⟩ := hI
    obtain ⟨hLb, hI⟩ := hI
    obtain ⟨hA, hI⟩ := hI
    obtain ⟨kB, hI⟩ := hI
    obtain ⟨k4, hI⟩ := hI
    obtain ⟨kZ, hI⟩ := hI
    obtain ⟨l4, hI⟩ := hI
    obtain ⟨l6, hI⟩ := hI
    have kF := hI
    clear hI
    subst hLb
    subst hA
    replace kB := hide kB
    replace k4 := hide k4
    replace kZ := hide kZ
    replace l4 := hide l4
    replace l6 := hide l6
    replace kF := hide kF
    refine ⟨?_, ?_, ?_, ?_, ?_, ?_, ?_, ?_, trivial⟩
    · intro h0 hd K hK
      have z : u0 = false := h0
      have z7_ : u7 = false := znb fun hu => z.symm.trans ((zu kF hu).1)
      subst z7_
      subst z
      clear h0 hd
      rw [if_pos (by rfl)]
      have c0 := keep1 (zu kB rfl) (unhide HF)
      go_simp
      exact unhide hK _ _ ⟨true, u1, u2, u3, u4, u5, u6, false, g4, c4, x, y, rfl, rfl, zu kB, zu k4, zf, zu l4, zu l6, zf⟩
    · intro h0 hd K hK
      have z : u1 = false := h0
      have z7_ : u7 = false := znb fun hu => z.symm.trans ((zu kF hu).2.1)
      have z4_ : u4 = false := znb fun hu => z.symm.trans ((zu l4 hu).1)
      subst z7_
      subst z4_
      subst z
      clear h0 hd
      rw [if_pos (by rfl)]
      have c0 := keep1 (zu kB rfl) (unhide HG0)
      have c1 := keep1 (zu kB rfl) (unhide HG1)
      go_simp
      exact unhide hK _ _ ⟨u0, true, u2, u3, false, u5, u6, false, g4, c4, x, y, rfl, rfl, zu kB, zf, zf, zf, zu l6, zf⟩
    · intro h0 hd K hK
      have z : u2 = false := h0
      have z7_ : u7 = false := znb fun hu => z.symm.trans ((zu kF hu).2.2.1)
      have z4_ : u4 = false := znb fun hu => z.symm.trans ((zu l4 hu).2.1)
      subst z7_
      subst z4_
      subst z
      clear h0 hd
      rw [if_pos (by rfl)]
      go_simp
      exact unhide hK _ _ ⟨u0, u1, true, u3, false, u5, u6, false, g4, c4, x, y, rfl, rfl, zu kB, zf, zf, zf, zu l6, zf⟩
    · intro h0 hd K hK
      have z : u3 = false := h0
      have z7_ : u7 = false := znb fun hu => z.symm.trans ((zu kF hu).2.2.2.1)
      have z4_ : u4 = false := znb fun hu => z.symm.trans ((zu l4 hu).2.2)
      subst z7_
      subst z4_
      subst z
      clear h0 hd
      rw [if_pos (by rfl)]
      have c0 := keep1 (zu kB rfl) (unhide HP0)
      have c1 := keep1 (zu kB rfl) (unhide HP1)
      go_simp
      exact unhide hK _ _ ⟨u0, u1, u2, true, false, u5, u6, false, g4, c4, x, y, rfl, rfl, zu kB, zf, zf, zf, zu l6, zf⟩
    · intro h0 hd K hK
      have z : u4 = false := h0
      have z7_ : u7 = false := znb fun hu => z.symm.trans ((zu kF hu).2.2.2.2.1)
      have zd : u1 = true ∧ u2 = true ∧ u3 = true := by
        simp [Region.binds] at hd
        simp [hd]
      obtain ⟨rfl, rfl, rfl⟩ := zd
      subst z7_
      subst z
      clear h0 hd
      rw [if_pos (by rfl)]
      go_simp
      refine (unhide HWI W (zu kB rfl)).mono ?_
      rintro e w8 ⟨⟨ga, ca, xa, ya, rfl, hlow8, hnew8⟩, hb8⟩
      exact unhide hK _ _ ⟨u0, true, true, true, true, u5, u6, false, ga, ca, xa, ya, rfl, rfl, (fun _ => bc (zu kB rfl) hb8), (fun _ _ => ⟨⟨hnew8.lt, Nat.le_trans (zu kB rfl).size hnew8.ge, hnew8.ca, hnew8.cm, hnew8.cl⟩, hlow8⟩), zf, (fun _ => ⟨rfl, rfl, rfl⟩), zu l6, zf⟩
    · intro h0 hd K hK
      have z : u5 = false := h0
      have z7_ : u7 = false := znb fun hu => z.symm.trans ((zu kF hu).2.2.2.2.2.1)
      subst z7_
      subst z
      clear h0 hd
      rw [if_pos (by rfl)]
      go_simp
      exact unhide hK _ _ ⟨u0, u1, u2, u3, u4, true, u6, false, g4, c4, x, y, rfl, rfl, zu kB, zu k4, zf, zu l4, (fun h => rfl), zf⟩
    · intro h0 hd K hK
      have z : u6 = false := h0
      have z7_ : u7 = false := znb fun hu => z.symm.trans ((zu kF hu).2.2.2.2.2.2)
      have zd : u5 = true := by
        simp [Region.binds] at hd
        simp [hd]
      obtain ⟨rfl⟩ := zd
      subst z7_
      subst z
      clear h0 hd
      rw [if_pos (by rfl)]
      go_simp
      exact unhide hK _ _ ⟨u0, u1, u2, u3, u4, true, true, false, g4, c4, x, y, rfl, rfl, zu kB, zu k4, zf, zu l4, (fun _ => rfl), zf⟩
    · intro h0 hd K hK
      have z : u7 = false := h0
      have zd0 : u0 = true ∧ u4 = true ∧ u6 = true := by
        simp [Region.binds] at hd
        simp [hd]
      have zd : u0 = true ∧ u4 = true ∧ u6 = true ∧ u1 = true ∧ u2 = true ∧ u3 = true ∧ u5 = true := ⟨zd0.1, zd0.2.1, zd0.2.2, (zu l4 zd0.2.1).1, (zu l4 zd0.2.1).2.1, (zu l4 zd0.2.1).2.2, (zu l6 zd0.2.2)⟩
      obtain ⟨rfl, rfl, rfl, rfl, rfl, rfl, rfl⟩ := zd
      subst z
      clear h0 hd
      rw [if_pos (by rfl)]
      have h4 := zu k4 rfl rfl
      have hb := (zu kB rfl)
      go_simp
      refine (unhide HREC W _ _ _ _ hb h4.1 h4.2).mono ?_
      rintro e w8 ⟨rfl, hz8⟩
      exact unhide hK _ _ ⟨true, true, true, true, true, true, true, true, g4, c4, x, y, rfl, rfl, zt, (fun _ => zt), (fun _ => hz8), (fun _ => ⟨rfl, rfl, rfl⟩), (fun _ => rfl), (fun _ => ⟨rfl, rfl, rfl, rfl, rfl, rfl, rfl⟩)⟩
  case hend =>
    intro Lb A W hI
    obtain ⟨u0, u1, u2, u3, u4, hI⟩ := hI
    obtain ⟨u5, u6, u7, g4, c4, hI⟩ := hI
    obtain ⟨x, y, hI⟩ := hI
    obtain ⟨hLb, hI⟩ := hI
    obtain ⟨hA, hI⟩ := hI
    obtain ⟨kB, hI⟩ := hI
    obtain ⟨k4, hI⟩ := hI
    obtain ⟨kZ, hI⟩ := hI
    obtain ⟨l4, hI⟩ := hI
    obtain ⟨l6, hI⟩ := hI
    have kF := hI
    clear hI
    subst hLb
    subst hA
    intro hL
    have hl : u0 = true ∧ u1 = true ∧ u2 = true ∧ u3 = true ∧ u4 = true ∧ u5 = true ∧ u6 = true ∧ u7 = true := by
      have h2 := congrArg Array.toList hL
      simpa [List.replicate] using h2
    obtain ⟨rfl, rfl, rfl, rfl, rfl, rfl, rfl, rfl⟩ := hl
    exact unhide HQ g4 c4 x y W (kZ rfl)

set_option maxHeartbeats 4000000 in
set_option maxRecDepth 100000 in
theorem ly8b {s0 s2 s3 s4 s7 s10 s11 s12 s13 s14 s15 s16 s17 s18 s19 s20 s21 s22 s23 s24 s25 s26 s27 s28 s29 s30 s31 s32 s33 s34 s35 s36 s37 s38 s39 s40 s41 s42 s43 s44 s45 s46 s47 s48 s49 s50 s51 s52 s53 s54 s55 s56 : Value} {lb lo ln lc g2 g3 g5 g6 g gp j k c : Nat} {u : Option Addr} {L : List Ld} {Wd pw ph : Int} {Z : World → Prop} {V : World} {K_ : Act → World → Prop} (HX1 : Hid (1 ≤ ln)) (HX2 : Hid (ln ≤ lc)) (HX3 : Hid (¬ lc = 1))
    (HF : Hid (V.cell? ⟨g6, 0, none⟩ = some (.func (.func 47) #[] #[.pointer (some ⟨g5, 0, none⟩), .pointer (some ⟨g3, 0, none⟩), .pointer (some ⟨g2, 0, none⟩), .pointer (some ⟨g6, 0, none⟩)]))) (HG0 : Hid (V.cell? ⟨g, 0, none⟩ = some (.int .i64 Wd))) (HG1 : Hid (V.cell? ⟨g, 1, none⟩ = some (.slice u k c))) (HP0 : Hid (V.cell? ⟨gp, 0, none⟩ = some (.int .i64 pw))) (HP1 : Hid (V.cell? ⟨gp, 1, none⟩ = some (.int .i64 ph)))
    (HWI : Hid (∀ X, Below V.heap.size V X → Calls Try.prog 23 #[.agg #[.int .i64 Wd, .slice u k c], .int .i64 (j : Int), .agg #[.int .i64 pw, .int .i64 ph], .bool true] X fun e w' => (∃ g cap x y, e = .returned (.agg #[.int .i64 Wd, .slice (some ⟨g, 0, none⟩) (k + 1) cap]) ∧ Low Wd (rcs L) (twd true pw ph) (twd true ph pw) x y ∧ NewL X w' g k cap (L ++ [⟨(j : Int), true, ⟨x, y, twd true pw ph, twd true ph pw⟩⟩])) ∧ Below X.heap.size X w'))
    (HREC : Hid (∀ X g4 c4 x y, Below V.heap.size V X → NewL V X g4 k c4 (L ++ [⟨(j : Int), true, ⟨x, y, twd true pw ph, twd true ph pw⟩⟩]) → Low Wd (rcs L) (twd true pw ph) (twd true ph pw) x y → Calls Try.prog 47 #[.agg #[.int .i64 Wd, .slice (some ⟨g4, 0, none⟩) (k + 1) c4], .slice (some ⟨lb, lo + 1, none⟩) (ln - 1) (lc - 1), .pointer (some ⟨g5, 0, none⟩), .pointer (some ⟨g3, 0, none⟩), .pointer (some ⟨g2, 0, none⟩), .pointer (some ⟨g6, 0, none⟩)] X fun e w' => e = .returned (.tuple #[]) ∧ Z w'))
    (hQ : ∀ (g4 c4 : Nat) (x y : Int) (W9 : World), Z W9 → K_ { tmps := #[s0, .slice (some ⟨lb, lo, none⟩) ln lc, s2, s3, s4, .pointer (some ⟨g6, 0, none⟩), .pointer (some ⟨g, 0, none⟩), s7, .int .i64 (j : Int), .pointer (some ⟨gp, 0, none⟩), s10, s11, s12, s13, s14, s15, s16, s17, s18, s19, s20, s21, s22, s23, s24, s25, s26, s27, s28, s29, s30, s31, s32, s33, s34, s35, s36, s37, s38, s39, s40, s41, s42, s43, s44, s45, s46, s47, s48, .func (.func 47) #[] #[.pointer (some ⟨g5, 0, none⟩), .pointer (some ⟨g3, 0, none⟩), .pointer (some ⟨g2, 0, none⟩), .pointer (some ⟨g6, 0, none⟩)], .agg #[.int .i64 Wd, .slice u k c], .int .i64 (j : Int), .agg #[.int .i64 pw, .int .i64 ph], .agg #[.int .i64 Wd, .slice (some ⟨g4, 0, none⟩) (k + 1) c4], .slice (some ⟨lb, lo, none⟩) ln lc, .slice (some ⟨lb, lo + 1, none⟩) (ln - 1) (lc - 1), .tuple #[]], defers := [] } W9) :
    Go.Code.wp Try.prog (rg47 8) (Only K_) { tmps := #[s0, .slice (some ⟨lb, lo, none⟩) ln lc, s2, s3, s4, .pointer (some ⟨g6, 0, none⟩), .pointer (some ⟨g, 0, none⟩), s7, .int .i64 (j : Int), .pointer (some ⟨gp, 0, none⟩), s10, s11, s12, s13, s14, s15, s16, s17, s18, s19, s20, s21, s22, s23, s24, s25, s26, s27, s28, s29, s30, s31, s32, s33, s34, s35, s36, s37, s38, s39, s40, s41, s42, s43, s44, s45, s46, s47, s48, s49, s50, s51, s52, s53, s54, s55, s56], defers := [] } V := by
  have HQ := hide hQ
  clear hQ
  conv => arg 2; whnf
  refine wp_region_inv2 (fun Lb A W => ∃ (u0 u1 u2 u3 u4 u5 u6 u7 : Bool) (g4 : Nat) (c4 : Nat) (x : Int) (y : Int), Lb = #[u0, u1, u2, u3, u4, u5, u6, u7] ∧ A = ({ tmps := #[s0, .slice (some ⟨lb, lo, none⟩) ln lc, s2, s3, s4, .pointer (some ⟨g6, 0, none⟩), .pointer (some ⟨g, 0, none⟩), s7, .int .i64 (j : Int), .pointer (some ⟨gp, 0, none⟩), s10, s11, s12, s13, s14, s15, s16, s17, s18, s19, s20, s21, s22, s23, s24, s25, s26, s27, s28, s29, s30, s31, s32, s33, s34, s35, s36, s37, s38, s39, s40, s41, s42, s43, s44, s45, s46, s47, s48, (bif u0 then .func (.func 47) #[] #[.pointer (some ⟨g5, 0, none⟩), .pointer (some ⟨g3, 0, none⟩), .pointer (some ⟨g2, 0, none⟩), .pointer (some ⟨g6, 0, none⟩)] else s49), (bif u1 then .agg #[.int .i64 Wd, .slice u k c] else s50), (bif u2 then .int .i64 (j : Int) else s51), (bif u3 then .agg #[.int .i64 pw, .int .i64 ph] else s52), (bif u4 then .agg #[.int .i64 Wd, .slice (some ⟨g4, 0, none⟩) (k + 1) c4] else s53), (bif u5 then .slice (some ⟨lb, lo, none⟩) ln lc else s54), (bif u6 then .slice (some ⟨lb, lo + 1, none⟩) (ln - 1) (lc - 1) else s55), (bif u7 then .tuple #[] else s56)], defers := [] } : Act) ∧ (u7 = false → Below V.heap.size V W) ∧ (u4 = true → u7 = false → NewL V W g4 k c4 (L ++ [⟨(j : Int), true, ⟨x, y, twd true pw ph, twd true ph pw⟩⟩]) ∧ Low Wd (rcs L) (twd true pw ph) (twd true ph pw) x y) ∧ (u7 = true → Z W) ∧ (u4 = true → u1 = true ∧ u2 = true ∧ u3 = true) ∧ (u6 = true → u5 = true) ∧ (u7 = true → u0 = true ∧ u1 = true ∧ u2 = true ∧ u3 = true ∧ u4 = true ∧ u5 = true ∧ u6 = true)) (by kernel_rfl) (by kernel_rfl) ?h0 ?hstep ?hend
  case h0 =>
    exact ⟨false, false, false, false, false, false, false, false, 0, 0, 0, 0, rfl, rfl, (fun _ => Below.drew (Below.refl _ _)), zf, zf, zf, zf, zf⟩
  case hstep =>
    intro Lb A W hI
    obtain ⟨u0, u1, u2, u3, u4, hI⟩ := hI
    obtain ⟨u5, u6, u7, g4, c4, hI⟩ := hI
    obtain ⟨x, y, hI⟩ := hI
    obtain ⟨hLb, hI⟩ := hI
    obtain ⟨hA, hI⟩ := hI
    obtain ⟨kB, hI⟩ := hI
    obtain ⟨k4, hI⟩ := hI
    obtain ⟨kZ, hI⟩ := hI
    obtain ⟨l4, hI⟩ := hI
    obtain ⟨l6, hI⟩ := hI
    have kF := hI
    clear hI
    subst hLb
    subst hA
    replace kB := hide kB
    replace k4 := hide k4
    replace kZ := hide kZ
    replace l4 := hide l4
    replace l6 := hide l6
    replace kF := hide kF
    refine ⟨?_, ?_, ?_, ?_, ?_, ?_, ?_, ?_, trivial⟩
    · intro h0 hd K hK
      have z : u0 = false := h0
      have z7_ : u7 = false := znb fun hu => z.symm.trans ((zu kF hu).1)
      subst z7_
      subst z
      clear h0 hd
      rw [if_pos (by rfl)]
      have c0 := keep1 (zu kB rfl) (unhide HF)
      go_simp
      exact unhide hK _ _ ⟨true, u1, u2, u3, u4, u5, u6, false, g4, c4, x, y, rfl, rfl, zu kB, zu k4, zf, zu l4, zu l6, zf⟩
    · intro h0 hd K hK
      have z : u1 = false := h0
      have z7_ : u7 = false := znb fun hu => z.symm.trans ((zu kF hu).2.1)
      have z4_ : u4 = false := znb fun hu => z.symm.trans ((zu l4 hu).1)
      subst z7_
      subst z4_
      subst z
      clear h0 hd
      rw [if_pos (by rfl)]
      have c0 := keep1 (zu kB rfl) (unhide HG0)
      have c1 := keep1 (zu kB rfl) (unhide HG1)
      go_simp
      exact unhide hK _ _ ⟨u0, true, u2, u3, false, u5, u6, false, g4, c4, x, y, rfl, rfl, zu kB, zf, zf, zf, zu l6, zf⟩
    · intro h0 hd K hK
      have z : u2 = false := h0
      have z7_ : u7 = false := znb fun hu => z.symm.trans ((zu kF hu).2.2.1)
      have z4_ : u4 = false := znb fun hu => z.symm.trans ((zu l4 hu).2.1)
      subst z7_
      subst z4_
      subst z
      clear h0 hd
      rw [if_pos (by rfl)]
      go_simp
      exact unhide hK _ _ ⟨u0, u1, true, u3, false, u5, u6, false, g4, c4, x, y, rfl, rfl, zu kB, zf, zf, zf, zu l6, zf⟩
    · intro h0 hd K hK
      have z : u3 = false := h0
      have z7_ : u7 = false := znb fun hu => z.symm.trans ((zu kF hu).2.2.2.1)
      have z4_ : u4 = false := znb fun hu => z.symm.trans ((zu l4 hu).2.2)
      subst z7_
      subst z4_
      subst z
      clear h0 hd
      rw [if_pos (by rfl)]
      have c0 := keep1 (zu kB rfl) (unhide HP0)
      have c1 := keep1 (zu kB rfl) (unhide HP1)
      go_simp
      exact unhide hK _ _ ⟨u0, u1, u2, true, false, u5, u6, false, g4, c4, x, y, rfl, rfl, zu kB, zf, zf, zf, zu l6, zf⟩
    · intro h0 hd K hK
      have z : u4 = false := h0
      have z7_ : u7 = false := znb fun hu => z.symm.trans ((zu kF hu).2.2.2.2.1)
      have zd : u1 = true ∧ u2 = true ∧ u3 = true := by
        simp [Region.binds] at hd
        simp [hd]
      obtain ⟨rfl, rfl, rfl⟩ := zd
      subst z7_
      subst z
      clear h0 hd
      rw [if_pos (by rfl)]
      go_simp
      refine (unhide HWI W (zu kB rfl)).mono ?_
      rintro e w8 ⟨⟨ga, ca, xa, ya, rfl, hlow8, hnew8⟩, hb8⟩
      exact unhide hK _ _ ⟨u0, true, true, true, true, u5, u6, false, ga, ca, xa, ya, rfl, rfl, (fun _ => bc (zu kB rfl) hb8), (fun _ _ => ⟨⟨hnew8.lt, Nat.le_trans (zu kB rfl).size hnew8.ge, hnew8.ca, hnew8.cm, hnew8.cl⟩, hlow8⟩), zf, (fun _ => ⟨rfl, rfl, rfl⟩), zu l6, zf⟩
    · intro h0 hd K hK
      have z : u5 = false := h0
      have z7_ : u7 = false := znb fun hu => z.symm.trans ((zu kF hu).2.2.2.2.2.1)
      subst z7_
      subst z
      clear h0 hd
      rw [if_pos (by rfl)]
      go_simp
      exact unhide hK _ _ ⟨u0, u1, u2, u3, u4, true, u6, false, g4, c4, x, y, rfl, rfl, zu kB, zu k4, zf, zu l4, (fun h => rfl), zf⟩
    · intro h0 hd K hK
      have z : u6 = false := h0
      have z7_ : u7 = false := znb fun hu => z.symm.trans ((zu kF hu).2.2.2.2.2.2)
      have zd : u5 = true := by
        simp [Region.binds] at hd
        simp [hd]
      obtain ⟨rfl⟩ := zd
      subst z7_
      subst z
      clear h0 hd
      rw [if_pos (by rfl)]
      have q1 : 1 ≤ ln := unhide HX1
      have q2 : ln ≤ lc := unhide HX2
      have q3 : ¬ lc = 1 := unhide HX3
      have q4 : (1 : Int) ≤ (ln : Int) := by omega
      have q5 : (1 : Int) ≤ (lc : Int) := by omega
      have q6 : (ln : Int) ≤ (lc : Int) := by omega
      go_simp
      exact unhide hK _ _ ⟨u0, u1, u2, u3, u4, true, true, false, g4, c4, x, y, rfl, rfl, zu kB, zu k4, zf, zu l4, (fun _ => rfl), zf⟩
    · intro h0 hd K hK
      have z : u7 = false := h0
      have zd0 : u0 = true ∧ u4 = true ∧ u6 = true := by
        simp [Region.binds] at hd
        simp [hd]
      have zd : u0 = true ∧ u4 = true ∧ u6 = true ∧ u1 = true ∧ u2 = true ∧ u3 = true ∧ u5 = true := ⟨zd0.1, zd0.2.1, zd0.2.2, (zu l4 zd0.2.1).1, (zu l4 zd0.2.1).2.1, (zu l4 zd0.2.1).2.2, (zu l6 zd0.2.2)⟩
      obtain ⟨rfl, rfl, rfl, rfl, rfl, rfl, rfl⟩ := zd
      subst z
      clear h0 hd
      rw [if_pos (by rfl)]
      have h4 := zu k4 rfl rfl
      have hb := (zu kB rfl)
      go_simp
      refine (unhide HREC W _ _ _ _ hb h4.1 h4.2).mono ?_
      rintro e w8 ⟨rfl, hz8⟩
      exact unhide hK _ _ ⟨true, true, true, true, true, true, true, true, g4, c4, x, y, rfl, rfl, zt, (fun _ => zt), (fun _ => hz8), (fun _ => ⟨rfl, rfl, rfl⟩), (fun _ => rfl), (fun _ => ⟨rfl, rfl, rfl, rfl, rfl, rfl, rfl⟩)⟩
  case hend =>
    intro Lb A W hI
    obtain ⟨u0, u1, u2, u3, u4, hI⟩ := hI
    obtain ⟨u5, u6, u7, g4, c4, hI⟩ := hI
    obtain ⟨x, y, hI⟩ := hI
    obtain ⟨hLb, hI⟩ := hI
    obtain ⟨hA, hI⟩ := hI
    obtain ⟨kB, hI⟩ := hI
    obtain ⟨k4, hI⟩ := hI
    obtain ⟨kZ, hI⟩ := hI
    obtain ⟨l4, hI⟩ := hI
    obtain ⟨l6, hI⟩ := hI
    have kF := hI
    clear hI
    subst hLb
    subst hA
    intro hL
    have hl : u0 = true ∧ u1 = true ∧ u2 = true ∧ u3 = true ∧ u4 = true ∧ u5 = true ∧ u6 = true ∧ u7 = true := by
      have h2 := congrArg Array.toList hL
      simpa [List.replicate] using h2
    obtain ⟨rfl, rfl, rfl, rfl, rfl, rfl, rfl, rfl⟩ := hl
    exact unhide HQ g4 c4 x y W (kZ rfl)

end Go.Proofs.Ytoidhlackoigkaa
