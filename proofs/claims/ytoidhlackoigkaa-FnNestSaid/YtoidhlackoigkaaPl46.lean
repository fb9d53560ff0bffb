/-
  Statements of the model's l16Place that draw their order, each walked alone.
-/
import Derived.Test.YtoidhlackoigkaaNsDj
namespace Go.Proofs.Ytoidhlackoigkaa
open Go.ChangeShapes Go.WideShapes Go.ChangeAt Go.RowKit
set_option linter.unusedVariables false
set_option linter.unusedSimpArgs false

noncomputable def rg46 (id : Nat) : Go.Code := match Try.f46.body with | some c => (regOfZ id c).getD .skip | none => .skip
set_option maxHeartbeats 4000000 in
set_option maxRecDepth 100000 in
theorem pl15 {s0 s1 s4 s5 s6 s7 s8 s11 s12 s15 s16 s17 s18 s19 s20 s21 s22 s23 s24 s25 s26 s27 s28 s29 s30 s31 s32 s33 s34 s35 s36 s37 s38 s39 s40 s41 s42 s43 s44 s45 s46 s47 s48 s49 s50 s51 s52 s53 s54 s55 s56 s57 s58 s59 s60 s61 s62 s63 s64 s65 s66 s67 s68 s69 s70 s71 s72 s73 s74 s75 s76 s77 s78 s79 s80 s81 s82 s83 s84 s85 s86 s87 s88 s89 s90 s91 s92 s93 s94 s95 s96 s97 s98 s99 s100 s101 s102 s103 s104 s105 s106 s107 s108 s109 s110 s111 s112 s113 s114 s115 s116 s117 s118 s119 s120 s121 s122 s123 s124 s125 s126 s127 s128 : Value} {xb n cx yb m cy i k : Nat} {wi he x y : Int} {V : World} {K_ : Act → World → Prop} 
    (HC0 : Hid (V.cell? ⟨xb, k, none⟩ = some (.int .i64 (x)))) (HC1 : Hid (V.cell? ⟨yb, i, none⟩ = some (.int .i64 (y)))) 
    (HX2 : Hid (k < n))
    (HX6 : Hid (i < m))
    (hQ : ∀ (n11 : Nat) (W1 : World), Below V.heap.size V W1 → vb W1 n11 84 [.int .i64 (x), .int .i64 (y), .int .i64 (wi), .int .i64 (he)] → V.heap.size ≤ n11 → K_ { tmps := #[s0, s1, .int .i64 (wi), .int .i64 (he), s4, s5, s6, s7, s8, .slice (some ⟨yb, 0, none⟩) m cy, .slice (some ⟨xb, 0, none⟩) n cx, s11, s12, .int .i64 (i : Int), .int .i64 (k : Int), .pointer (some ⟨n11, 0, none⟩), s16, s17, s18, s19, s20, s21, s22, s23, s24, s25, s26, s27, s28, s29, s30, s31, s32, s33, s34, s35, s36, s37, s38, s39, s40, s41, s42, s43, s44, s45, s46, s47, s48, s49, s50, s51, s52, s53, s54, s55, s56, s57, s58, s59, s60, s61, s62, s63, s64, s65, s66, .slice (some ⟨xb, 0, none⟩) n cx, .int .i64 (k : Int), .pointer (some ⟨xb, k, none⟩), .int .i64 (x), .slice (some ⟨yb, 0, none⟩) m cy, .int .i64 (i : Int), .pointer (some ⟨yb, i, none⟩), .int .i64 (y), .int .i64 (wi), .int .i64 (he), .agg #[.int .i64 (x), .int .i64 (y), .int .i64 (wi), .int .i64 (he)], s78, s79, s80, s81, s82, s83, s84, s85, s86, s87, s88, s89, s90, s91, s92, s93, s94, s95, s96, s97, s98, s99, s100, s101, s102, s103, s104, s105, s106, s107, s108, s109, s110, s111, s112, s113, s114, s115, s116, s117, s118, s119, s120, s121, s122, s123, s124, s125, s126, s127, s128], defers := [] } W1) :
    Go.Code.wp Try.prog (rg46 15) (Only K_) { tmps := #[s0, s1, .int .i64 (wi), .int .i64 (he), s4, s5, s6, s7, s8, .slice (some ⟨yb, 0, none⟩) m cy, .slice (some ⟨xb, 0, none⟩) n cx, s11, s12, .int .i64 (i : Int), .int .i64 (k : Int), s15, s16, s17, s18, s19, s20, s21, s22, s23, s24, s25, s26, s27, s28, s29, s30, s31, s32, s33, s34, s35, s36, s37, s38, s39, s40, s41, s42, s43, s44, s45, s46, s47, s48, s49, s50, s51, s52, s53, s54, s55, s56, s57, s58, s59, s60, s61, s62, s63, s64, s65, s66, s67, s68, s69, s70, s71, s72, s73, s74, s75, s76, s77, s78, s79, s80, s81, s82, s83, s84, s85, s86, s87, s88, s89, s90, s91, s92, s93, s94, s95, s96, s97, s98, s99, s100, s101, s102, s103, s104, s105, s106, s107, s108, s109, s110, s111, s112, s113, s114, s115, s116, s117, s118, s119, s120, s121, s122, s123, s124, s125, s126, s127, s128], defers := [] } V := by
  have HQ := hide hQ
  clear hQ
  conv => arg 2; whnf
  refine wp_region_inv2 (fun Lb A W => ∃ (u0 u1 u2 u3 u4 u5 u6 u7 u8 u9 u10 u11 u12 : Bool) (n11 : Nat), Lb = #[u0, u1, u2, u3, u4, u5, u6, u7, u8, u9, u10, u11, u12] ∧ A = ({ tmps := #[s0, s1, .int .i64 (wi), .int .i64 (he), s4, s5, s6, s7, s8, .slice (some ⟨yb, 0, none⟩) m cy, .slice (some ⟨xb, 0, none⟩) n cx, s11, s12, .int .i64 (i : Int), .int .i64 (k : Int), (bif u11 then .pointer (some ⟨n11, 0, none⟩) else s15), s16, s17, s18, s19, s20, s21, s22, s23, s24, s25, s26, s27, s28, s29, s30, s31, s32, s33, s34, s35, s36, s37, s38, s39, s40, s41, s42, s43, s44, s45, s46, s47, s48, s49, s50, s51, s52, s53, s54, s55, s56, s57, s58, s59, s60, s61, s62, s63, s64, s65, s66, (bif u0 then .slice (some ⟨xb, 0, none⟩) n cx else s67), (bif u1 then .int .i64 (k : Int) else s68), (bif u2 then .pointer (some ⟨xb, k, none⟩) else s69), (bif u3 then .int .i64 (x) else s70), (bif u4 then .slice (some ⟨yb, 0, none⟩) m cy else s71), (bif u5 then .int .i64 (i : Int) else s72), (bif u6 then .pointer (some ⟨yb, i, none⟩) else s73), (bif u7 then .int .i64 (y) else s74), (bif u8 then .int .i64 (wi) else s75), (bif u9 then .int .i64 (he) else s76), (bif u10 then .agg #[.int .i64 (x), .int .i64 (y), .int .i64 (wi), .int .i64 (he)] else s77), s78, s79, s80, s81, s82, s83, s84, s85, s86, s87, s88, s89, s90, s91, s92, s93, s94, s95, s96, s97, s98, s99, s100, s101, s102, s103, s104, s105, s106, s107, s108, s109, s110, s111, s112, s113, s114, s115, s116, s117, s118, s119, s120, s121, s122, s123, s124, s125, s126, s127, s128], defers := [] } : Act) ∧ Below V.heap.size V W ∧ (u11 = true → vb W n11 84 (bif u12 then [.int .i64 (x), .int .i64 (y), .int .i64 (wi), .int .i64 (he)] else [.int .i64 (0), .int .i64 (0), .int .i64 (0), .int .i64 (0)]) ∧ V.heap.size ≤ n11) ∧ (u12 = true → u0 = true ∧ u1 = true ∧ u2 = true ∧ u3 = true ∧ u4 = true ∧ u5 = true ∧ u6 = true ∧ u7 = true ∧ u8 = true ∧ u9 = true ∧ u10 = true ∧ u11 = true)) (by kernel_rfl) (by kernel_rfl) ?h0 ?hstep ?hend
  case h0 =>
    exact ⟨false, false, false, false, false, false, false, false, false, false, false, false, false, 0, rfl, rfl, Below.drew (Below.refl _ _), zf, zf⟩
  case hstep =>
    intro Lb A W hI
    obtain ⟨u0, u1, u2, u3, u4, hI⟩ := hI
    obtain ⟨u5, u6, u7, u8, u9, hI⟩ := hI
    obtain ⟨u10, u11, u12, n11, hI⟩ := hI
    obtain ⟨hLb, hI⟩ := hI
    obtain ⟨hA, hI⟩ := hI
    obtain ⟨kB, hI⟩ := hI
    obtain ⟨k11, hI⟩ := hI
    have kF := hI
    clear hI
    subst hLb
    subst hA
    replace kB := hide kB
    replace k11 := hide k11
    replace kF := hide kF
    refine ⟨?_, ?_, ?_, ?_, ?_, ?_, ?_, ?_, ?_, ?_, ?_, ?_, ?_, trivial⟩
    · intro h0 hd K hK
      have z : u0 = false := h0
      have z12_ : u12 = false := znb fun hu => z.symm.trans ((zu kF hu).1)
      subst z12_
      subst z
      clear h0 hd
      rw [if_pos (by rfl)]
      go_simp
      exact unhide hK _ _ ⟨true, u1, u2, u3, u4, u5, u6, u7, u8, u9, u10, u11, false, n11, rfl, rfl, zu kB, zu k11, zf⟩
    · intro h0 hd K hK
      have z : u1 = false := h0
      have z12_ : u12 = false := znb fun hu => z.symm.trans ((zu kF hu).2.1)
      subst z12_
      subst z
      clear h0 hd
      rw [if_pos (by rfl)]
      go_simp
      exact unhide hK _ _ ⟨u0, true, u2, u3, u4, u5, u6, u7, u8, u9, u10, u11, false, n11, rfl, rfl, zu kB, zu k11, zf⟩
    · intro h0 hd K hK
      have z : u2 = false := h0
      have z12_ : u12 = false := znb fun hu => z.symm.trans ((zu kF hu).2.2.1)
      have zd : u0 = true ∧ u1 = true := by
        simp [Region.binds] at hd
        simp [hd]
      obtain ⟨rfl, rfl⟩ := zd
      subst z12_
      subst z
      clear h0 hd
      rw [if_pos (by rfl)]
      have q1 : k < n := unhide HX2
      have q2 : (k : Int) < (n : Int) := by omega
      go_simp
      exact unhide hK _ _ ⟨true, true, true, u3, u4, u5, u6, u7, u8, u9, u10, u11, false, n11, rfl, rfl, zu kB, zu k11, zf⟩
    · intro h0 hd K hK
      have z : u3 = false := h0
      have z12_ : u12 = false := znb fun hu => z.symm.trans ((zu kF hu).2.2.2.1)
      have zd : u2 = true := by
        simp [Region.binds] at hd
        simp [hd]
      obtain ⟨rfl⟩ := zd
      subst z12_
      subst z
      clear h0 hd
      rw [if_pos (by rfl)]
      have c0 := keep1 (zu kB) (unhide HC0)
      go_simp
      exact unhide hK _ _ ⟨u0, u1, true, true, u4, u5, u6, u7, u8, u9, u10, u11, false, n11, rfl, rfl, zu kB, zu k11, zf⟩
    · intro h0 hd K hK
      have z : u4 = false := h0
      have z12_ : u12 = false := znb fun hu => z.symm.trans ((zu kF hu).2.2.2.2.1)
      subst z12_
      subst z
      clear h0 hd
      rw [if_pos (by rfl)]
      go_simp
      exact unhide hK _ _ ⟨u0, u1, u2, u3, true, u5, u6, u7, u8, u9, u10, u11, false, n11, rfl, rfl, zu kB, zu k11, zf⟩
    · intro h0 hd K hK
      have z : u5 = false := h0
      have z12_ : u12 = false := znb fun hu => z.symm.trans ((zu kF hu).2.2.2.2.2.1)
      subst z12_
      subst z
      clear h0 hd
      rw [if_pos (by rfl)]
      go_simp
      exact unhide hK _ _ ⟨u0, u1, u2, u3, u4, true, u6, u7, u8, u9, u10, u11, false, n11, rfl, rfl, zu kB, zu k11, zf⟩
    · intro h0 hd K hK
      have z : u6 = false := h0
      have z12_ : u12 = false := znb fun hu => z.symm.trans ((zu kF hu).2.2.2.2.2.2.1)
      have zd : u4 = true ∧ u5 = true := by
        simp [Region.binds] at hd
        simp [hd]
      obtain ⟨rfl, rfl⟩ := zd
      subst z12_
      subst z
      clear h0 hd
      rw [if_pos (by rfl)]
      have q1 : i < m := unhide HX6
      have q2 : (i : Int) < (m : Int) := by omega
      go_simp
      exact unhide hK _ _ ⟨u0, u1, u2, u3, true, true, true, u7, u8, u9, u10, u11, false, n11, rfl, rfl, zu kB, zu k11, zf⟩
    · intro h0 hd K hK
      have z : u7 = false := h0
      have z12_ : u12 = false := znb fun hu => z.symm.trans ((zu kF hu).2.2.2.2.2.2.2.1)
      have zd : u6 = true := by
        simp [Region.binds] at hd
        simp [hd]
      obtain ⟨rfl⟩ := zd
      subst z12_
      subst z
      clear h0 hd
      rw [if_pos (by rfl)]
      have c0 := keep1 (zu kB) (unhide HC1)
      go_simp
      exact unhide hK _ _ ⟨u0, u1, u2, u3, u4, u5, true, true, u8, u9, u10, u11, false, n11, rfl, rfl, zu kB, zu k11, zf⟩
    · intro h0 hd K hK
      have z : u8 = false := h0
      have z12_ : u12 = false := znb fun hu => z.symm.trans ((zu kF hu).2.2.2.2.2.2.2.2.1)
      subst z12_
      subst z
      clear h0 hd
      rw [if_pos (by rfl)]
      go_simp
      exact unhide hK _ _ ⟨u0, u1, u2, u3, u4, u5, u6, u7, true, u9, u10, u11, false, n11, rfl, rfl, zu kB, zu k11, zf⟩
    · intro h0 hd K hK
      have z : u9 = false := h0
      have z12_ : u12 = false := znb fun hu => z.symm.trans ((zu kF hu).2.2.2.2.2.2.2.2.2.1)
      subst z12_
      subst z
      clear h0 hd
      rw [if_pos (by rfl)]
      go_simp
      exact unhide hK _ _ ⟨u0, u1, u2, u3, u4, u5, u6, u7, u8, true, u10, u11, false, n11, rfl, rfl, zu kB, zu k11, zf⟩
    · intro h0 hd K hK
      have z : u10 = false := h0
      have z12_ : u12 = false := znb fun hu => z.symm.trans ((zu kF hu).2.2.2.2.2.2.2.2.2.2.1)
      have zd : u3 = true ∧ u7 = true ∧ u8 = true ∧ u9 = true := by
        simp [Region.binds] at hd
        simp [hd]
      obtain ⟨rfl, rfl, rfl, rfl⟩ := zd
      subst z12_
      subst z
      clear h0 hd
      rw [if_pos (by rfl)]
      go_simp
      exact unhide hK _ _ ⟨u0, u1, u2, true, u4, u5, u6, true, true, true, true, u11, false, n11, rfl, rfl, zu kB, zu k11, zf⟩
    · intro h0 hd K hK
      have z : u11 = false := h0
      have z12_ : u12 = false := znb fun hu => z.symm.trans ((zu kF hu).2.2.2.2.2.2.2.2.2.2.2)
      subst z12_
      subst z
      clear h0 hd
      rw [if_pos (by rfl)]
      go_simp
      exact unhide hK _ _ ⟨u0, u1, u2, u3, u4, u5, u6, u7, u8, u9, u10, true, false, W.heap.size, rfl, rfl, ba (zu kB) _, (fun _ => ⟨vb_new W 84 _ _ rfl, (zu kB).size⟩), zf⟩
    · intro h0 hd K hK
      have z : u12 = false := h0
      have zd0 : u0 = true ∧ u1 = true ∧ u2 = true ∧ u3 = true ∧ u4 = true ∧ u5 = true ∧ u6 = true ∧ u7 = true ∧ u8 = true ∧ u9 = true ∧ u10 = true ∧ u11 = true := by
        simp [Region.binds] at hd
        simp [hd]
      have zd : u0 = true ∧ u1 = true ∧ u2 = true ∧ u3 = true ∧ u4 = true ∧ u5 = true ∧ u6 = true ∧ u7 = true ∧ u8 = true ∧ u9 = true ∧ u10 = true ∧ u11 = true := ⟨zd0.1, zd0.2.1, zd0.2.2.1, zd0.2.2.2.1, zd0.2.2.2.2.1, zd0.2.2.2.2.2.1, zd0.2.2.2.2.2.2.1, zd0.2.2.2.2.2.2.2.1, zd0.2.2.2.2.2.2.2.2.1, zd0.2.2.2.2.2.2.2.2.2.1, zd0.2.2.2.2.2.2.2.2.2.2.1, zd0.2.2.2.2.2.2.2.2.2.2.2⟩
      obtain ⟨rfl, rfl, rfl, rfl, rfl, rfl, rfl, rfl, rfl, rfl, rfl, rfl⟩ := zd
      subst z
      clear h0 hd
      rw [if_pos (by rfl)]
      have v1 := (zu k11 rfl).1
      have g9 := (zu k11 rfl).2
      have fz := v1.frozen
      have q0 := v1.cell (m := 0) rfl
      have q1 := v1.cell (m := 1) rfl
      have q2 := v1.cell (m := 2) rfl
      have q3 := v1.cell (m := 3) rfl
      have HV1 := hide v1
      clear v1
      go_simp
      exact unhide hK _ _ ⟨true, true, true, true, true, true, true, true, true, true, true, true, true, n11, rfl, rfl, (((((((((zu kB)).setCell (p := ⟨n11, 0, none⟩) g9 _)).setCell (p := ⟨n11, 1, none⟩) g9 _)).setCell (p := ⟨n11, 2, none⟩) g9 _)).setCell (p := ⟨n11, 3, none⟩) g9 _), (fun _ => ⟨(((((unhide HV1).set 0 _).set 1 _).set 2 _).set 3 _), g9⟩), (fun _ => ⟨rfl, rfl, rfl, rfl, rfl, rfl, rfl, rfl, rfl, rfl, rfl, rfl⟩)⟩
  case hend =>
    intro Lb A W hI
    obtain ⟨u0, u1, u2, u3, u4, hI⟩ := hI
    obtain ⟨u5, u6, u7, u8, u9, hI⟩ := hI
    obtain ⟨u10, u11, u12, n11, hI⟩ := hI
    obtain ⟨hLb, hI⟩ := hI
    obtain ⟨hA, hI⟩ := hI
    obtain ⟨kB, hI⟩ := hI
    obtain ⟨k11, hI⟩ := hI
    have kF := hI
    clear hI
    subst hLb
    subst hA
    intro hL
    have hl : u0 = true ∧ u1 = true ∧ u2 = true ∧ u3 = true ∧ u4 = true ∧ u5 = true ∧ u6 = true ∧ u7 = true ∧ u8 = true ∧ u9 = true ∧ u10 = true ∧ u11 = true ∧ u12 = true := by
      have h2 := congrArg Array.toList hL
      simpa [List.replicate] using h2
    obtain ⟨rfl, rfl, rfl, rfl, rfl, rfl, rfl, rfl, rfl, rfl, rfl, rfl, rfl⟩ := hl
    exact unhide HQ n11 W kB (k11 rfl).1 (k11 rfl).2

set_option maxHeartbeats 4000000 in
set_option maxRecDepth 100000 in
theorem pl21 {s0 s2 s3 s4 s5 s6 s7 s8 s9 s10 s11 s12 s13 s14 s16 s18 s19 s20 s21 s22 s23 s24 s25 s26 s27 s28 s29 s30 s31 s32 s33 s34 s35 s36 s37 s38 s39 s40 s41 s42 s43 s44 s45 s46 s47 s48 s49 s50 s51 s52 s53 s54 s55 s56 s57 s58 s59 s60 s61 s62 s63 s64 s65 s66 s67 s68 s69 s70 s71 s72 s73 s74 s75 s76 s77 s78 s79 s80 s81 s82 s83 s84 s85 s86 s87 s88 s89 s90 s91 s92 s93 s94 s95 s96 s97 s98 s99 s100 s101 s102 s103 s104 s105 s106 s107 s108 s109 s110 s111 s112 s113 s114 s115 s116 s117 s118 s119 s120 s121 s122 s123 s124 s125 s126 s127 s128 : Value} {g b po n cap j : Nat} {xa ya wa ha xb yb wb hb : Int} {ov : Bool} {V : World} {K_ : Act → World → Prop} 
    (HG0 : Hid (V.cell? ⟨g, 0, none⟩ = some (.int .i64 (xa)))) (HG1 : Hid (V.cell? ⟨g, 1, none⟩ = some (.int .i64 (ya)))) (HG2 : Hid (V.cell? ⟨g, 2, none⟩ = some (.int .i64 (wa)))) (HG3 : Hid (V.cell? ⟨g, 3, none⟩ = some (.int .i64 (ha)))) (HH0 : Hid (V.cell? ⟨b, po + j * 4, none⟩ = some (.int .i64 (xb)))) (HH1 : Hid (V.cell? ⟨b, po + j * 4 + 1, none⟩ = some (.int .i64 (yb)))) (HH2 : Hid (V.cell? ⟨b, po + j * 4 + 2, none⟩ = some (.int .i64 (wb)))) (HH3 : Hid (V.cell? ⟨b, po + j * 4 + 3, none⟩ = some (.int .i64 (hb)))) 
    (HX3 : Hid (j < n))
    (HF5 : Hid (∀ Xw, Below V.heap.size V Xw → Calls Try.prog 59 #[.agg #[.int .i64 (xa), .int .i64 (ya), .int .i64 (wa), .int .i64 (ha)], .agg #[.int .i64 (xb), .int .i64 (yb), .int .i64 (wb), .int .i64 (hb)]] Xw fun e w' => e = .returned (.bool (ov)) ∧ Below Xw.heap.size Xw w'))
    (hQ : ∀ (W1 : World), Below V.heap.size V W1 → K_ { tmps := #[s0, .slice (some ⟨b, po, none⟩) n cap, s2, s3, s4, s5, s6, s7, s8, s9, s10, s11, s12, s13, s14, .pointer (some ⟨g, 0, none⟩), .bool (!ov), .int .i64 (j : Int), s18, s19, s20, s21, s22, s23, s24, s25, s26, s27, s28, s29, s30, s31, s32, s33, s34, s35, s36, s37, s38, s39, s40, s41, s42, s43, s44, s45, s46, s47, s48, s49, s50, s51, s52, s53, s54, s55, s56, s57, s58, s59, s60, s61, s62, s63, s64, s65, s66, s67, s68, s69, s70, s71, s72, s73, s74, s75, s76, s77, s78, s79, s80, s81, s82, s83, s84, s85, s86, s87, s88, s89, s90, s91, s92, s93, s94, s95, s96, s97, s98, s99, s100, s101, s102, s103, s104, s105, s106, s107, s108, s109, s110, s111, s112, s113, s114, s115, s116, s117, s118, .agg #[.int .i64 (xa), .int .i64 (ya), .int .i64 (wa), .int .i64 (ha)], .slice (some ⟨b, po, none⟩) n cap, .int .i64 (j : Int), .pointer (some ⟨b, po + j * 4, none⟩), .agg #[.int .i64 (xb), .int .i64 (yb), .int .i64 (wb), .int .i64 (hb)], .bool (ov), .bool (!ov), s126, s127, s128], defers := [] } W1) :
    Go.Code.wp Try.prog (rg46 21) (Only K_) { tmps := #[s0, .slice (some ⟨b, po, none⟩) n cap, s2, s3, s4, s5, s6, s7, s8, s9, s10, s11, s12, s13, s14, .pointer (some ⟨g, 0, none⟩), s16, .int .i64 (j : Int), s18, s19, s20, s21, s22, s23, s24, s25, s26, s27, s28, s29, s30, s31, s32, s33, s34, s35, s36, s37, s38, s39, s40, s41, s42, s43, s44, s45, s46, s47, s48, s49, s50, s51, s52, s53, s54, s55, s56, s57, s58, s59, s60, s61, s62, s63, s64, s65, s66, s67, s68, s69, s70, s71, s72, s73, s74, s75, s76, s77, s78, s79, s80, s81, s82, s83, s84, s85, s86, s87, s88, s89, s90, s91, s92, s93, s94, s95, s96, s97, s98, s99, s100, s101, s102, s103, s104, s105, s106, s107, s108, s109, s110, s111, s112, s113, s114, s115, s116, s117, s118, s119, s120, s121, s122, s123, s124, s125, s126, s127, s128], defers := [] } V := by
  have HQ := hide hQ
  clear hQ
  conv => arg 2; whnf
  refine wp_region_inv2 (fun Lb A W => ∃ (u0 u1 u2 u3 u4 u5 u6 u7 : Bool) (dm : Nat), Lb = #[u0, u1, u2, u3, u4, u5, u6, u7] ∧ A = ({ tmps := #[s0, .slice (some ⟨b, po, none⟩) n cap, s2, s3, s4, s5, s6, s7, s8, s9, s10, s11, s12, s13, s14, .pointer (some ⟨g, 0, none⟩), (bif u7 then .bool (!ov) else s16), .int .i64 (j : Int), s18, s19, s20, s21, s22, s23, s24, s25, s26, s27, s28, s29, s30, s31, s32, s33, s34, s35, s36, s37, s38, s39, s40, s41, s42, s43, s44, s45, s46, s47, s48, s49, s50, s51, s52, s53, s54, s55, s56, s57, s58, s59, s60, s61, s62, s63, s64, s65, s66, s67, s68, s69, s70, s71, s72, s73, s74, s75, s76, s77, s78, s79, s80, s81, s82, s83, s84, s85, s86, s87, s88, s89, s90, s91, s92, s93, s94, s95, s96, s97, s98, s99, s100, s101, s102, s103, s104, s105, s106, s107, s108, s109, s110, s111, s112, s113, s114, s115, s116, s117, s118, (bif u0 then .agg #[.int .i64 (xa), .int .i64 (ya), .int .i64 (wa), .int .i64 (ha)] else s119), (bif u1 then .slice (some ⟨b, po, none⟩) n cap else s120), (bif u2 then .int .i64 (j : Int) else s121), (bif u3 then .pointer (some ⟨b, po + j * 4, none⟩) else s122), (bif u4 then .agg #[.int .i64 (xb), .int .i64 (yb), .int .i64 (wb), .int .i64 (hb)] else s123), (bif u5 then .bool (ov) else s124), (bif u6 then .bool (!ov) else s125), s126, s127, s128], defers := [] } : Act) ∧ Below V.heap.size V W ∧ (u7 = true → u0 = true ∧ u1 = true ∧ u2 = true ∧ u3 = true ∧ u4 = true ∧ u5 = true ∧ u6 = true)) (by kernel_rfl) (by kernel_rfl) ?h0 ?hstep ?hend
  case h0 =>
    exact ⟨false, false, false, false, false, false, false, false, 0, rfl, rfl, Below.drew (Below.refl _ _), zf⟩
  case hstep =>
    intro Lb A W hI
    obtain ⟨u0, u1, u2, u3, u4, hI⟩ := hI
    obtain ⟨u5, u6, u7, dm, hI⟩ := hI
    obtain ⟨hLb, hI⟩ := hI
    obtain ⟨hA, hI⟩ := hI
    obtain ⟨kB, hI⟩ := hI
    have kF := hI
    clear hI
    subst hLb
    subst hA
    replace kB := hide kB
    replace kF := hide kF
    refine ⟨?_, ?_, ?_, ?_, ?_, ?_, ?_, ?_, trivial⟩
    · intro h0 hd K hK
      have z : u0 = false := h0
      have z7_ : u7 = false := znb fun hu => z.symm.trans ((zu kF hu).1)
      subst z7_
      subst z
      clear h0 hd
      rw [if_pos (by rfl)]
      have c0 := keep1 (zu kB) (unhide HG0)
      have c1 := keep1 (zu kB) (unhide HG1)
      have c2 := keep1 (zu kB) (unhide HG2)
      have c3 := keep1 (zu kB) (unhide HG3)
      go_simp
      exact unhide hK _ _ ⟨true, u1, u2, u3, u4, u5, u6, false, dm, rfl, rfl, zu kB, zf⟩
    · intro h0 hd K hK
      have z : u1 = false := h0
      have z7_ : u7 = false := znb fun hu => z.symm.trans ((zu kF hu).2.1)
      subst z7_
      subst z
      clear h0 hd
      rw [if_pos (by rfl)]
      go_simp
      exact unhide hK _ _ ⟨u0, true, u2, u3, u4, u5, u6, false, dm, rfl, rfl, zu kB, zf⟩
    · intro h0 hd K hK
      have z : u2 = false := h0
      have z7_ : u7 = false := znb fun hu => z.symm.trans ((zu kF hu).2.2.1)
      subst z7_
      subst z
      clear h0 hd
      rw [if_pos (by rfl)]
      go_simp
      exact unhide hK _ _ ⟨u0, u1, true, u3, u4, u5, u6, false, dm, rfl, rfl, zu kB, zf⟩
    · intro h0 hd K hK
      have z : u3 = false := h0
      have z7_ : u7 = false := znb fun hu => z.symm.trans ((zu kF hu).2.2.2.1)
      have zd : u1 = true ∧ u2 = true := by
        simp [Region.binds] at hd
        simp [hd]
      obtain ⟨rfl, rfl⟩ := zd
      subst z7_
      subst z
      clear h0 hd
      rw [if_pos (by rfl)]
      have q1 : j < n := unhide HX3
      have q2 : (j : Int) < (n : Int) := by omega
      go_simp
      exact unhide hK _ _ ⟨u0, true, true, true, u4, u5, u6, false, dm, rfl, rfl, zu kB, zf⟩
    · intro h0 hd K hK
      have z : u4 = false := h0
      have z7_ : u7 = false := znb fun hu => z.symm.trans ((zu kF hu).2.2.2.2.1)
      have zd : u3 = true := by
        simp [Region.binds] at hd
        simp [hd]
      obtain ⟨rfl⟩ := zd
      subst z7_
      subst z
      clear h0 hd
      rw [if_pos (by rfl)]
      have c0 := keep1 (zu kB) (unhide HH0)
      have c1 := keep1 (zu kB) (unhide HH1)
      have c2 := keep1 (zu kB) (unhide HH2)
      have c3 := keep1 (zu kB) (unhide HH3)
      go_simp
      exact unhide hK _ _ ⟨u0, u1, u2, true, true, u5, u6, false, dm, rfl, rfl, zu kB, zf⟩
    · intro h0 hd K hK
      have z : u5 = false := h0
      have z7_ : u7 = false := znb fun hu => z.symm.trans ((zu kF hu).2.2.2.2.2.1)
      have zd : u0 = true ∧ u4 = true := by
        simp [Region.binds] at hd
        simp [hd]
      obtain ⟨rfl, rfl⟩ := zd
      subst z7_
      subst z
      clear h0 hd
      rw [if_pos (by rfl)]
      go_simp
      refine (unhide HF5 W (zu kB)).mono ?_
      rintro e w8 ⟨rfl, hb8⟩
      exact unhide hK _ _ ⟨true, u1, u2, u3, true, true, u6, false, dm, rfl, rfl, bc (zu kB) hb8, zf⟩
    · intro h0 hd K hK
      have z : u6 = false := h0
      have z7_ : u7 = false := znb fun hu => z.symm.trans ((zu kF hu).2.2.2.2.2.2)
      have zd : u5 = true := by
        simp [Region.binds] at hd
        simp [hd]
      obtain ⟨rfl⟩ := zd
      subst z7_
      subst z
      clear h0 hd
      rw [if_pos (by rfl)]
      go_simp
      exact unhide hK _ _ ⟨u0, u1, u2, u3, u4, true, true, false, dm, rfl, rfl, zu kB, zf⟩
    · intro h0 hd K hK
      have z : u7 = false := h0
      have zd0 : u0 = true ∧ u1 = true ∧ u2 = true ∧ u3 = true ∧ u4 = true ∧ u5 = true ∧ u6 = true := by
        simp [Region.binds] at hd
        simp [hd]
      have zd : u0 = true ∧ u1 = true ∧ u2 = true ∧ u3 = true ∧ u4 = true ∧ u5 = true ∧ u6 = true := ⟨zd0.1, zd0.2.1, zd0.2.2.1, zd0.2.2.2.1, zd0.2.2.2.2.1, zd0.2.2.2.2.2.1, zd0.2.2.2.2.2.2⟩
      obtain ⟨rfl, rfl, rfl, rfl, rfl, rfl, rfl⟩ := zd
      subst z
      clear h0 hd
      rw [if_pos (by rfl)]
      go_simp
      exact unhide hK _ _ ⟨true, true, true, true, true, true, true, true, dm, rfl, rfl, zu kB, (fun _ => ⟨rfl, rfl, rfl, rfl, rfl, rfl, rfl⟩)⟩
  case hend =>
    intro Lb A W hI
    obtain ⟨u0, u1, u2, u3, u4, hI⟩ := hI
    obtain ⟨u5, u6, u7, dm, hI⟩ := hI
    obtain ⟨hLb, hI⟩ := hI
    obtain ⟨hA, hI⟩ := hI
    obtain ⟨kB, hI⟩ := hI
    have kF := hI
    clear hI
    subst hLb
    subst hA
    intro hL
    have hl : u0 = true ∧ u1 = true ∧ u2 = true ∧ u3 = true ∧ u4 = true ∧ u5 = true ∧ u6 = true ∧ u7 = true := by
      have h2 := congrArg Array.toList hL
      simpa [List.replicate] using h2
    obtain ⟨rfl, rfl, rfl, rfl, rfl, rfl, rfl, rfl⟩ := hl
    exact unhide HQ  W kB

end Go.Proofs.Ytoidhlackoigkaa
