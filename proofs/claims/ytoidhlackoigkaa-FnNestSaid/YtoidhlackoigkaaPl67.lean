/-
  Appends of the model's l16Place within statements that draw their order.
-/
import Derived.Test.YtoidhlackoigkaaPl46
import Derived.Test.YtoidhlackoigkaaApN
namespace Go.Proofs.Ytoidhlackoigkaa
open Go.ChangeShapes Go.WideShapes Go.ChangeAt Go.RowKit
set_option linter.unusedVariables false
set_option linter.unusedSimpArgs false

theorem src_vb {w : World} {g t : Nat} {L : List Int} (h : vb w g t (L.map (Value.int .i64))) : ∀ (j : Nat) (u : Value), (L.map (Value.int .i64))[j]? = some u → w.cell? ((⟨g, 0, none⟩ : Addr).add j) = some u := by
  intro j u hj
  rw [add_none, Nat.zero_add]
  exact h.cell hj
set_option maxHeartbeats 4000000 in
set_option maxRecDepth 100000 in
theorem pl6 {s0 s2 s3 s4 s5 s6 s7 s8 s10 s12 s13 s14 s15 s16 s17 s18 s19 s20 s21 s22 s23 s24 s25 s26 s27 s28 s29 s30 s31 s32 s33 s34 s35 s36 s37 s38 s39 s40 s41 s42 s43 s44 s45 s46 s47 s48 s49 s50 s51 s52 s53 s54 s55 s56 s57 s58 s59 s60 s61 s62 s63 s64 s65 s66 s67 s68 s69 s70 s71 s72 s73 s74 s75 s76 s77 s78 s79 s80 s81 s82 s83 s84 s85 s86 s87 s88 s89 s90 s91 s92 s93 s94 s95 s96 s97 s98 s99 s100 s101 s102 s103 s104 s105 s106 s107 s108 s109 s110 s111 s112 s113 s114 s115 s116 s117 s118 s119 s120 s121 s122 s123 s124 s125 s126 s127 s128 rv : Value} {b po n cap i B k : Nat} {x0 y0 ln : Int} {L : List Int} {V : World} {K_ : Act → World → Prop}
    (HA0 : Hid (V.cell? ⟨b, po + i * 4 + 1, none⟩ = some (.int .i64 x0))) (HA1 : Hid (V.cell? ⟨b, po + i * 4 + 3, none⟩ = some (.int .i64 y0)))
    (HX : Hid (i < n)) (HWr : Hid (IntKind.i64.wrap (x0 + y0) = ln))
    (HR : Hid (Row V B 3 1 rv k L)) (hBV : B ≤ V.heap.size) (hk : k ≤ 100000)
    (hQ : ∀ (n12 : Nat) (r13 : Value) (W1 W9 : World), Below V.heap.size V W1 → Row W9 B 3 1 r13 (k + 1) (L ++ [ln]) → W1.grownBy W9 rv.ownBlock → NewBlk W1 rv r13 → K_ { tmps := #[s0, .slice (some ⟨b, po, none⟩) n cap, s2, s3, s4, s5, s6, s7, s8, r13, s10, .int .i64 (i : Int), s12, s13, s14, s15, s16, s17, s18, s19, s20, s21, s22, s23, s24, s25, rv, .slice (some ⟨b, po, none⟩) n cap, .int .i64 (i : Int), .pointer (some ⟨b, po + i * 4, none⟩), .pointer (some ⟨b, po + i * 4 + 1, none⟩), .int .i64 x0, .slice (some ⟨b, po, none⟩) n cap, .int .i64 (i : Int), .pointer (some ⟨b, po + i * 4, none⟩), .pointer (some ⟨b, po + i * 4 + 3, none⟩), .int .i64 y0, .int .i64 ln, .slice (some ⟨n12, 0, none⟩) 1 1, r13, s40, s41, s42, s43, s44, s45, s46, s47, s48, s49, s50, s51, s52, s53, s54, s55, s56, s57, s58, s59, s60, s61, s62, s63, s64, s65, s66, s67, s68, s69, s70, s71, s72, s73, s74, s75, s76, s77, s78, s79, s80, s81, s82, s83, s84, s85, s86, s87, s88, s89, s90, s91, s92, s93, s94, s95, s96, s97, s98, s99, s100, s101, s102, s103, s104, s105, s106, s107, s108, s109, s110, s111, s112, s113, s114, s115, s116, s117, s118, s119, s120, s121, s122, s123, s124, s125, s126, s127, s128], defers := [] } W9) :
    Go.Code.wp Try.prog (rg46 6) (Only K_) { tmps := #[s0, .slice (some ⟨b, po, none⟩) n cap, s2, s3, s4, s5, s6, s7, s8, rv, s10, .int .i64 (i : Int), s12, s13, s14, s15, s16, s17, s18, s19, s20, s21, s22, s23, s24, s25, s26, s27, s28, s29, s30, s31, s32, s33, s34, s35, s36, s37, s38, s39, s40, s41, s42, s43, s44, s45, s46, s47, s48, s49, s50, s51, s52, s53, s54, s55, s56, s57, s58, s59, s60, s61, s62, s63, s64, s65, s66, s67, s68, s69, s70, s71, s72, s73, s74, s75, s76, s77, s78, s79, s80, s81, s82, s83, s84, s85, s86, s87, s88, s89, s90, s91, s92, s93, s94, s95, s96, s97, s98, s99, s100, s101, s102, s103, s104, s105, s106, s107, s108, s109, s110, s111, s112, s113, s114, s115, s116, s117, s118, s119, s120, s121, s122, s123, s124, s125, s126, s127, s128], defers := [] } V := by
  have HQ := hide hQ
  clear hQ
  obtain ⟨iP, hi1, hy0, hy1, hy2⟩ := info_parts int_info3
  conv => arg 2; whnf
  refine wp_region_inv2 (fun Lb A W => ∃ (u0 u1 u2 u3 u4 u5 u6 u7 u8 u9 u10 u11 u12 u13 u14 : Bool) (n12 : Nat) (r13 : Value), Lb = #[u0, u1, u2, u3, u4, u5, u6, u7, u8, u9, u10, u11, u12, u13, u14] ∧ A = ({ tmps := #[s0, .slice (some ⟨b, po, none⟩) n cap, s2, s3, s4, s5, s6, s7, s8, (bif u14 then r13 else rv), s10, .int .i64 (i : Int), s12, s13, s14, s15, s16, s17, s18, s19, s20, s21, s22, s23, s24, s25, (bif u0 then rv else s26), (bif u1 then .slice (some ⟨b, po, none⟩) n cap else s27), (bif u2 then .int .i64 (i : Int) else s28), (bif u3 then .pointer (some ⟨b, po + i * 4, none⟩) else s29), (bif u4 then .pointer (some ⟨b, po + i * 4 + 1, none⟩) else s30), (bif u5 then .int .i64 x0 else s31), (bif u6 then .slice (some ⟨b, po, none⟩) n cap else s32), (bif u7 then .int .i64 (i : Int) else s33), (bif u8 then .pointer (some ⟨b, po + i * 4, none⟩) else s34), (bif u9 then .pointer (some ⟨b, po + i * 4 + 3, none⟩) else s35), (bif u10 then .int .i64 y0 else s36), (bif u11 then .int .i64 ln else s37), (bif u12 then .slice (some ⟨n12, 0, none⟩) 1 1 else s38), (bif u13 then r13 else s39), s40, s41, s42, s43, s44, s45, s46, s47, s48, s49, s50, s51, s52, s53, s54, s55, s56, s57, s58, s59, s60, s61, s62, s63, s64, s65, s66, s67, s68, s69, s70, s71, s72, s73, s74, s75, s76, s77, s78, s79, s80, s81, s82, s83, s84, s85, s86, s87, s88, s89, s90, s91, s92, s93, s94, s95, s96, s97, s98, s99, s100, s101, s102, s103, s104, s105, s106, s107, s108, s109, s110, s111, s112, s113, s114, s115, s116, s117, s118, s119, s120, s121, s122, s123, s124, s125, s126, s127, s128], defers := [] } : Act) ∧ (u13 = false → Below V.heap.size V W) ∧ (u12 = true → u13 = false → vb W n12 3 [.int .i64 ln]) ∧ (u13 = true → ∃ W1, Below V.heap.size V W1 ∧ Row W B 3 1 r13 (k + 1) (L ++ [ln]) ∧ W1.grownBy W rv.ownBlock ∧ NewBlk W1 rv r13) ∧ (u3 = true → u1 = true ∧ u2 = true) ∧ (u4 = true → u3 = true) ∧ (u5 = true → u4 = true) ∧ (u8 = true → u6 = true ∧ u7 = true) ∧ (u9 = true → u8 = true) ∧ (u10 = true → u9 = true) ∧ (u11 = true → u5 = true ∧ u10 = true) ∧ (u12 = true → u11 = true) ∧ (u13 = true → u0 = true ∧ u12 = true) ∧ (u14 = true → u0 = true ∧ u1 = true ∧ u2 = true ∧ u3 = true ∧ u4 = true ∧ u5 = true ∧ u6 = true ∧ u7 = true ∧ u8 = true ∧ u9 = true ∧ u10 = true ∧ u11 = true ∧ u12 = true ∧ u13 = true)) (by kernel_rfl) (by kernel_rfl) ?h0 ?hstep ?hend
  case h0 =>
    exact ⟨false, false, false, false, false, false, false, false, false, false, false, false, false, false, false, 0, undef, rfl, rfl, (fun _ => Below.drew (Below.refl _ _)), zf, zf, zf, zf, zf, zf, zf, zf, zf, zf, zf, zf⟩
  case hstep =>
    intro Lb A W hI
    obtain ⟨u0, u1, u2, u3, u4, hI⟩ := hI
    obtain ⟨u5, u6, u7, u8, u9, hI⟩ := hI
    obtain ⟨u10, u11, u12, u13, u14, hI⟩ := hI
    obtain ⟨n12, r13, hI⟩ := hI
    obtain ⟨hLb, hI⟩ := hI
    obtain ⟨hA, hI⟩ := hI
    obtain ⟨kB, hI⟩ := hI
    obtain ⟨k12, hI⟩ := hI
    obtain ⟨kZ, hI⟩ := hI
    obtain ⟨l3, hI⟩ := hI
    obtain ⟨l4, hI⟩ := hI
    obtain ⟨l5, hI⟩ := hI
    obtain ⟨l8, hI⟩ := hI
    obtain ⟨l9, hI⟩ := hI
    obtain ⟨l10, hI⟩ := hI
    obtain ⟨l11, hI⟩ := hI
    obtain ⟨l12, hI⟩ := hI
    obtain ⟨l13, hI⟩ := hI
    have kF := hI
    clear hI
    subst hLb
    subst hA
    replace kB := hide kB
    replace k12 := hide k12
    replace kZ := hide kZ
    replace l3 := hide l3
    replace l4 := hide l4
    replace l5 := hide l5
    replace l8 := hide l8
    replace l9 := hide l9
    replace l10 := hide l10
    replace l11 := hide l11
    replace l12 := hide l12
    replace l13 := hide l13
    replace kF := hide kF
    refine ⟨?_, ?_, ?_, ?_, ?_, ?_, ?_, ?_, ?_, ?_, ?_, ?_, ?_, ?_, ?_, trivial⟩
    · intro h0 hd K hK
      have z : u0 = false := h0
      have z14_ : u14 = false := znb fun hu => z.symm.trans ((zu kF hu).1)
      have z13_ : u13 = false := znb fun hu => z.symm.trans ((zu l13 hu).1)
      subst z14_
      subst z13_
      subst z
      clear h0 hd
      rw [if_pos (by rfl)]
      go_simp
      exact unhide hK _ _ ⟨true, u1, u2, u3, u4, u5, u6, u7, u8, u9, u10, u11, u12, false, false, n12, r13, rfl, rfl, zu kB, zu k12, zf, zu l3, zu l4, zu l5, zu l8, zu l9, zu l10, zu l11, zu l12, zf, zf⟩
    · intro h0 hd K hK
      have z : u1 = false := h0
      have z14_ : u14 = false := znb fun hu => z.symm.trans ((zu kF hu).2.1)
      have z13_ : u13 = false := znb fun hu => z.symm.trans ((zu l3 (zu l4 (zu l5 (zu l11 (zu l12 (zu l13 hu).2)).1))).1)
      subst z14_
      subst z13_
      subst z
      clear h0 hd
      rw [if_pos (by rfl)]
      go_simp
      exact unhide hK _ _ ⟨u0, true, u2, u3, u4, u5, u6, u7, u8, u9, u10, u11, u12, false, false, n12, r13, rfl, rfl, zu kB, zu k12, zf, (fun h => ⟨rfl, (zu l3 h).2⟩), zu l4, zu l5, zu l8, zu l9, zu l10, zu l11, zu l12, zf, zf⟩
    · intro h0 hd K hK
      have z : u2 = false := h0
      have z14_ : u14 = false := znb fun hu => z.symm.trans ((zu kF hu).2.2.1)
      have z13_ : u13 = false := znb fun hu => z.symm.trans ((zu l3 (zu l4 (zu l5 (zu l11 (zu l12 (zu l13 hu).2)).1))).2)
      subst z14_
      subst z13_
      subst z
      clear h0 hd
      rw [if_pos (by rfl)]
      go_simp
      exact unhide hK _ _ ⟨u0, u1, true, u3, u4, u5, u6, u7, u8, u9, u10, u11, u12, false, false, n12, r13, rfl, rfl, zu kB, zu k12, zf, (fun h => ⟨(zu l3 h).1, rfl⟩), zu l4, zu l5, zu l8, zu l9, zu l10, zu l11, zu l12, zf, zf⟩
    · intro h0 hd K hK
      have z : u3 = false := h0
      have z14_ : u14 = false := znb fun hu => z.symm.trans ((zu kF hu).2.2.2.1)
      have z13_ : u13 = false := znb fun hu => z.symm.trans ((zu l4 (zu l5 (zu l11 (zu l12 (zu l13 hu).2)).1)))
      have zd : u1 = true ∧ u2 = true := by
        simp [Region.binds] at hd
        simp [hd]
      obtain ⟨rfl, rfl⟩ := zd
      subst z14_
      subst z13_
      subst z
      clear h0 hd
      rw [if_pos (by rfl)]
      have q1 : i < n := unhide HX
      have q2 : (i : Int) < (n : Int) := by omega
      go_simp
      exact unhide hK _ _ ⟨u0, true, true, true, u4, u5, u6, u7, u8, u9, u10, u11, u12, false, false, n12, r13, rfl, rfl, zu kB, zu k12, zf, (fun _ => ⟨rfl, rfl⟩), (fun h => rfl), zu l5, zu l8, zu l9, zu l10, zu l11, zu l12, zf, zf⟩
    · intro h0 hd K hK
      have z : u4 = false := h0
      have z14_ : u14 = false := znb fun hu => z.symm.trans ((zu kF hu).2.2.2.2.1)
      have z13_ : u13 = false := znb fun hu => z.symm.trans ((zu l5 (zu l11 (zu l12 (zu l13 hu).2)).1))
      have zd : u3 = true := by
        simp [Region.binds] at hd
        simp [hd]
      obtain ⟨rfl⟩ := zd
      subst z14_
      subst z13_
      subst z
      clear h0 hd
      rw [if_pos (by rfl)]
      go_simp
      exact unhide hK _ _ ⟨u0, u1, u2, true, true, u5, u6, u7, u8, u9, u10, u11, u12, false, false, n12, r13, rfl, rfl, zu kB, zu k12, zf, zu l3, (fun _ => rfl), (fun h => rfl), zu l8, zu l9, zu l10, zu l11, zu l12, zf, zf⟩
    · intro h0 hd K hK
      have z : u5 = false := h0
      have z14_ : u14 = false := znb fun hu => z.symm.trans ((zu kF hu).2.2.2.2.2.1)
      have z13_ : u13 = false := znb fun hu => z.symm.trans ((zu l11 (zu l12 (zu l13 hu).2)).1)
      have zd : u4 = true := by
        simp [Region.binds] at hd
        simp [hd]
      obtain ⟨rfl⟩ := zd
      subst z14_
      subst z13_
      subst z
      clear h0 hd
      rw [if_pos (by rfl)]
      have c0 := keep1 (zu kB rfl) (unhide HA0)
      go_simp
      exact unhide hK _ _ ⟨u0, u1, u2, u3, true, true, u6, u7, u8, u9, u10, u11, u12, false, false, n12, r13, rfl, rfl, zu kB, zu k12, zf, zu l3, zu l4, (fun _ => rfl), zu l8, zu l9, zu l10, (fun h => ⟨rfl, (zu l11 h).2⟩), zu l12, zf, zf⟩
    · intro h0 hd K hK
      have z : u6 = false := h0
      have z14_ : u14 = false := znb fun hu => z.symm.trans ((zu kF hu).2.2.2.2.2.2.1)
      have z13_ : u13 = false := znb fun hu => z.symm.trans ((zu l8 (zu l9 (zu l10 (zu l11 (zu l12 (zu l13 hu).2)).2))).1)
      subst z14_
      subst z13_
      subst z
      clear h0 hd
      rw [if_pos (by rfl)]
      go_simp
      exact unhide hK _ _ ⟨u0, u1, u2, u3, u4, u5, true, u7, u8, u9, u10, u11, u12, false, false, n12, r13, rfl, rfl, zu kB, zu k12, zf, zu l3, zu l4, zu l5, (fun h => ⟨rfl, (zu l8 h).2⟩), zu l9, zu l10, zu l11, zu l12, zf, zf⟩
    · intro h0 hd K hK
      have z : u7 = false := h0
      have z14_ : u14 = false := znb fun hu => z.symm.trans ((zu kF hu).2.2.2.2.2.2.2.1)
      have z13_ : u13 = false := znb fun hu => z.symm.trans ((zu l8 (zu l9 (zu l10 (zu l11 (zu l12 (zu l13 hu).2)).2))).2)
      subst z14_
      subst z13_
      subst z
      clear h0 hd
      rw [if_pos (by rfl)]
      go_simp
      exact unhide hK _ _ ⟨u0, u1, u2, u3, u4, u5, u6, true, u8, u9, u10, u11, u12, false, false, n12, r13, rfl, rfl, zu kB, zu k12, zf, zu l3, zu l4, zu l5, (fun h => ⟨(zu l8 h).1, rfl⟩), zu l9, zu l10, zu l11, zu l12, zf, zf⟩
    · intro h0 hd K hK
      have z : u8 = false := h0
      have z14_ : u14 = false := znb fun hu => z.symm.trans ((zu kF hu).2.2.2.2.2.2.2.2.1)
      have z13_ : u13 = false := znb fun hu => z.symm.trans ((zu l9 (zu l10 (zu l11 (zu l12 (zu l13 hu).2)).2)))
      have zd : u6 = true ∧ u7 = true := by
        simp [Region.binds] at hd
        simp [hd]
      obtain ⟨rfl, rfl⟩ := zd
      subst z14_
      subst z13_
      subst z
      clear h0 hd
      rw [if_pos (by rfl)]
      have q1 : i < n := unhide HX
      have q2 : (i : Int) < (n : Int) := by omega
      go_simp
      exact unhide hK _ _ ⟨u0, u1, u2, u3, u4, u5, true, true, true, u9, u10, u11, u12, false, false, n12, r13, rfl, rfl, zu kB, zu k12, zf, zu l3, zu l4, zu l5, (fun _ => ⟨rfl, rfl⟩), (fun h => rfl), zu l10, zu l11, zu l12, zf, zf⟩
    · intro h0 hd K hK
      have z : u9 = false := h0
      have z14_ : u14 = false := znb fun hu => z.symm.trans ((zu kF hu).2.2.2.2.2.2.2.2.2.1)
      have z13_ : u13 = false := znb fun hu => z.symm.trans ((zu l10 (zu l11 (zu l12 (zu l13 hu).2)).2))
      have zd : u8 = true := by
        simp [Region.binds] at hd
        simp [hd]
      obtain ⟨rfl⟩ := zd
      subst z14_
      subst z13_
      subst z
      clear h0 hd
      rw [if_pos (by rfl)]
      go_simp
      exact unhide hK _ _ ⟨u0, u1, u2, u3, u4, u5, u6, u7, true, true, u10, u11, u12, false, false, n12, r13, rfl, rfl, zu kB, zu k12, zf, zu l3, zu l4, zu l5, zu l8, (fun _ => rfl), (fun h => rfl), zu l11, zu l12, zf, zf⟩
    · intro h0 hd K hK
      have z : u10 = false := h0
      have z14_ : u14 = false := znb fun hu => z.symm.trans ((zu kF hu).2.2.2.2.2.2.2.2.2.2.1)
      have z13_ : u13 = false := znb fun hu => z.symm.trans ((zu l11 (zu l12 (zu l13 hu).2)).2)
      have zd : u9 = true := by
        simp [Region.binds] at hd
        simp [hd]
      obtain ⟨rfl⟩ := zd
      subst z14_
      subst z13_
      subst z
      clear h0 hd
      rw [if_pos (by rfl)]
      have c0 := keep1 (zu kB rfl) (unhide HA1)
      go_simp
      exact unhide hK _ _ ⟨u0, u1, u2, u3, u4, u5, u6, u7, u8, true, true, u11, u12, false, false, n12, r13, rfl, rfl, zu kB, zu k12, zf, zu l3, zu l4, zu l5, zu l8, zu l9, (fun _ => rfl), (fun h => ⟨(zu l11 h).1, rfl⟩), zu l12, zf, zf⟩
    · intro h0 hd K hK
      have z : u11 = false := h0
      have z14_ : u14 = false := znb fun hu => z.symm.trans ((zu kF hu).2.2.2.2.2.2.2.2.2.2.2.1)
      have z13_ : u13 = false := znb fun hu => z.symm.trans ((zu l12 (zu l13 hu).2))
      have zd : u5 = true ∧ u10 = true := by
        simp [Region.binds] at hd
        simp [hd]
      obtain ⟨rfl, rfl⟩ := zd
      subst z14_
      subst z13_
      subst z
      clear h0 hd
      rw [if_pos (by rfl)]
      have wq := unhide HWr
      go_simp
      exact unhide hK _ _ ⟨u0, u1, u2, u3, u4, true, u6, u7, u8, u9, true, true, u12, false, false, n12, r13, rfl, rfl, zu kB, zu k12, zf, zu l3, zu l4, zu l5, zu l8, zu l9, zu l10, (fun _ => ⟨rfl, rfl⟩), (fun h => rfl), zf, zf⟩
    · intro h0 hd K hK
      have z : u12 = false := h0
      have z14_ : u14 = false := znb fun hu => z.symm.trans ((zu kF hu).2.2.2.2.2.2.2.2.2.2.2.2.1)
      have z13_ : u13 = false := znb fun hu => z.symm.trans ((zu l13 hu).2)
      have zd : u11 = true := by
        simp [Region.binds] at hd
        simp [hd]
      obtain ⟨rfl⟩ := zd
      subst z14_
      subst z13_
      subst z
      clear h0 hd
      rw [if_pos (by rfl)]
      go_simp
      exact unhide hK _ _ ⟨u0, u1, u2, u3, u4, u5, u6, u7, u8, u9, u10, true, true, false, false, W.heap.size, r13, rfl, rfl, (fun _ => ba (zu kB rfl) _), (fun _ _ => vb_new W 3 [.int .i64 ln] _ rfl), zf, zu l3, zu l4, zu l5, zu l8, zu l9, zu l10, zu l11, (fun _ => rfl), zf, zf⟩
    · intro h0 hd K hK
      have z : u13 = false := h0
      have z14_ : u14 = false := znb fun hu => z.symm.trans ((zu kF hu).2.2.2.2.2.2.2.2.2.2.2.2.2)
      have zd : u0 = true ∧ u12 = true := by
        simp [Region.binds] at hd
        simp [hd]
      obtain ⟨rfl, rfl⟩ := zd
      subst z14_
      subst z
      clear h0 hd
      rw [if_pos (by rfl)]
      have h7 := zu k12 rfl rfl
      have hb := (zu kB rfl)
      refine wp_append_new W (.tmp 26) (.tmp 38) 51 (by rfl) B 3 iP _ 1 8 Try.underlying51 hi1 hy0 hy1 hy2 rfl (by decide) rv k (L.map (Value.int .i64)) (by rfl) ((unhide HR).below hb) ⟨n12, 0, none⟩ 1 1 ([ln].map (Value.int .i64)) (by rfl) (by rfl) (src_vb h7) ints_one (by unfold maxLen; omega) (by omega) (Nat.le_trans hBV hb.size) ?_
      intro r8' w1 hown' hgrow _ hnb
      have R : Row w1 B 3 1 r8' (k + 1) (L ++ [ln]) := by unfold Row; rw [List.map_append]; exact hown'
      exact unhide hK _ _ ⟨true, u1, u2, u3, u4, u5, u6, u7, u8, u9, u10, u11, true, true, false, n12, r8', rfl, rfl, zt, (fun _ => zt), (fun _ => ⟨W, hb, R, hgrow, hnb⟩), zu l3, zu l4, zu l5, zu l8, zu l9, zu l10, zu l11, zu l12, (fun _ => ⟨rfl, rfl⟩), zf⟩
    · intro h0 hd K hK
      have z : u14 = false := h0
      have zd0 : u0 = true ∧ u1 = true ∧ u2 = true ∧ u3 = true ∧ u4 = true ∧ u5 = true ∧ u6 = true ∧ u7 = true ∧ u8 = true ∧ u9 = true ∧ u10 = true ∧ u11 = true ∧ u12 = true ∧ u13 = true := by
        simp [Region.binds] at hd
        simp [hd]
      have zd : u0 = true ∧ u1 = true ∧ u2 = true ∧ u3 = true ∧ u4 = true ∧ u5 = true ∧ u6 = true ∧ u7 = true ∧ u8 = true ∧ u9 = true ∧ u10 = true ∧ u11 = true ∧ u12 = true ∧ u13 = true := ⟨zd0.1, zd0.2.1, zd0.2.2.1, zd0.2.2.2.1, zd0.2.2.2.2.1, zd0.2.2.2.2.2.1, zd0.2.2.2.2.2.2.1, zd0.2.2.2.2.2.2.2.1, zd0.2.2.2.2.2.2.2.2.1, zd0.2.2.2.2.2.2.2.2.2.1, zd0.2.2.2.2.2.2.2.2.2.2.1, zd0.2.2.2.2.2.2.2.2.2.2.2.1, zd0.2.2.2.2.2.2.2.2.2.2.2.2.1, zd0.2.2.2.2.2.2.2.2.2.2.2.2.2⟩
      obtain ⟨rfl, rfl, rfl, rfl, rfl, rfl, rfl, rfl, rfl, rfl, rfl, rfl, rfl, rfl⟩ := zd
      subst z
      clear h0 hd
      rw [if_pos (by rfl)]
      go_simp
      exact unhide hK _ _ ⟨true, true, true, true, true, true, true, true, true, true, true, true, true, true, true, n12, r13, rfl, rfl, zu kB, (fun _ => zt), zu kZ, (fun _ => ⟨rfl, rfl⟩), (fun _ => rfl), (fun _ => rfl), (fun _ => ⟨rfl, rfl⟩), (fun _ => rfl), (fun _ => rfl), (fun _ => ⟨rfl, rfl⟩), (fun _ => rfl), (fun _ => ⟨rfl, rfl⟩), (fun _ => ⟨rfl, rfl, rfl, rfl, rfl, rfl, rfl, rfl, rfl, rfl, rfl, rfl, rfl, rfl⟩)⟩
  case hend =>
    intro Lb A W hI
    obtain ⟨u0, u1, u2, u3, u4, hI⟩ := hI
    obtain ⟨u5, u6, u7, u8, u9, hI⟩ := hI
    obtain ⟨u10, u11, u12, u13, u14, hI⟩ := hI
    obtain ⟨n12, r13, hI⟩ := hI
    obtain ⟨hLb, hI⟩ := hI
    obtain ⟨hA, hI⟩ := hI
    obtain ⟨kB, hI⟩ := hI
    obtain ⟨k12, hI⟩ := hI
    obtain ⟨kZ, hI⟩ := hI
    obtain ⟨l3, hI⟩ := hI
    obtain ⟨l4, hI⟩ := hI
    obtain ⟨l5, hI⟩ := hI
    obtain ⟨l8, hI⟩ := hI
    obtain ⟨l9, hI⟩ := hI
    obtain ⟨l10, hI⟩ := hI
    obtain ⟨l11, hI⟩ := hI
    obtain ⟨l12, hI⟩ := hI
    obtain ⟨l13, hI⟩ := hI
    have kF := hI
    clear hI
    subst hLb
    subst hA
    intro hL
    have hl : u0 = true ∧ u1 = true ∧ u2 = true ∧ u3 = true ∧ u4 = true ∧ u5 = true ∧ u6 = true ∧ u7 = true ∧ u8 = true ∧ u9 = true ∧ u10 = true ∧ u11 = true ∧ u12 = true ∧ u13 = true ∧ u14 = true := by
      have h2 := congrArg Array.toList hL
      simpa [List.replicate] using h2
    obtain ⟨rfl, rfl, rfl, rfl, rfl, rfl, rfl, rfl, rfl, rfl, rfl, rfl, rfl, rfl, rfl⟩ := hl
    obtain ⟨W1, z1, z2, z3, z4⟩ := kZ rfl
    exact unhide HQ n12 r13 W1 W z1 z2 z3 z4

set_option maxHeartbeats 4000000 in
set_option maxRecDepth 100000 in
theorem pl7 {s0 s2 s3 s4 s5 s6 s7 s8 s9 s12 s13 s14 s15 s16 s17 s18 s19 s20 s21 s22 s23 s24 s25 s26 s27 s28 s29 s30 s31 s32 s33 s34 s35 s36 s37 s38 s39 s40 s41 s42 s43 s44 s45 s46 s47 s48 s49 s50 s51 s52 s53 s54 s55 s56 s57 s58 s59 s60 s61 s62 s63 s64 s65 s66 s67 s68 s69 s70 s71 s72 s73 s74 s75 s76 s77 s78 s79 s80 s81 s82 s83 s84 s85 s86 s87 s88 s89 s90 s91 s92 s93 s94 s95 s96 s97 s98 s99 s100 s101 s102 s103 s104 s105 s106 s107 s108 s109 s110 s111 s112 s113 s114 s115 s116 s117 s118 s119 s120 s121 s122 s123 s124 s125 s126 s127 s128 rv : Value} {b po n cap i B k : Nat} {x0 y0 ln : Int} {L : List Int} {V : World} {K_ : Act → World → Prop}
    (HA0 : Hid (V.cell? ⟨b, po + i * 4, none⟩ = some (.int .i64 x0))) (HA1 : Hid (V.cell? ⟨b, po + i * 4 + 2, none⟩ = some (.int .i64 y0)))
    (HX : Hid (i < n)) (HWr : Hid (IntKind.i64.wrap (x0 + y0) = ln))
    (HR : Hid (Row V B 3 1 rv k L)) (hBV : B ≤ V.heap.size) (hk : k ≤ 100000)
    (hQ : ∀ (n12 : Nat) (r13 : Value) (W1 W9 : World), Below V.heap.size V W1 → Row W9 B 3 1 r13 (k + 1) (L ++ [ln]) → W1.grownBy W9 rv.ownBlock → NewBlk W1 rv r13 → K_ { tmps := #[s0, .slice (some ⟨b, po, none⟩) n cap, s2, s3, s4, s5, s6, s7, s8, s9, r13, .int .i64 (i : Int), s12, s13, s14, s15, s16, s17, s18, s19, s20, s21, s22, s23, s24, s25, s26, s27, s28, s29, s30, s31, s32, s33, s34, s35, s36, s37, s38, s39, rv, .slice (some ⟨b, po, none⟩) n cap, .int .i64 (i : Int), .pointer (some ⟨b, po + i * 4, none⟩), .pointer (some ⟨b, po + i * 4, none⟩), .int .i64 x0, .slice (some ⟨b, po, none⟩) n cap, .int .i64 (i : Int), .pointer (some ⟨b, po + i * 4, none⟩), .pointer (some ⟨b, po + i * 4 + 2, none⟩), .int .i64 y0, .int .i64 ln, .slice (some ⟨n12, 0, none⟩) 1 1, r13, s54, s55, s56, s57, s58, s59, s60, s61, s62, s63, s64, s65, s66, s67, s68, s69, s70, s71, s72, s73, s74, s75, s76, s77, s78, s79, s80, s81, s82, s83, s84, s85, s86, s87, s88, s89, s90, s91, s92, s93, s94, s95, s96, s97, s98, s99, s100, s101, s102, s103, s104, s105, s106, s107, s108, s109, s110, s111, s112, s113, s114, s115, s116, s117, s118, s119, s120, s121, s122, s123, s124, s125, s126, s127, s128], defers := [] } W9) :
    Go.Code.wp Try.prog (rg46 7) (Only K_) { tmps := #[s0, .slice (some ⟨b, po, none⟩) n cap, s2, s3, s4, s5, s6, s7, s8, s9, rv, .int .i64 (i : Int), s12, s13, s14, s15, s16, s17, s18, s19, s20, s21, s22, s23, s24, s25, s26, s27, s28, s29, s30, s31, s32, s33, s34, s35, s36, s37, s38, s39, s40, s41, s42, s43, s44, s45, s46, s47, s48, s49, s50, s51, s52, s53, s54, s55, s56, s57, s58, s59, s60, s61, s62, s63, s64, s65, s66, s67, s68, s69, s70, s71, s72, s73, s74, s75, s76, s77, s78, s79, s80, s81, s82, s83, s84, s85, s86, s87, s88, s89, s90, s91, s92, s93, s94, s95, s96, s97, s98, s99, s100, s101, s102, s103, s104, s105, s106, s107, s108, s109, s110, s111, s112, s113, s114, s115, s116, s117, s118, s119, s120, s121, s122, s123, s124, s125, s126, s127, s128], defers := [] } V := by
  have HQ := hide hQ
  clear hQ
  obtain ⟨iP, hi1, hy0, hy1, hy2⟩ := info_parts int_info3
  conv => arg 2; whnf
  refine wp_region_inv2 (fun Lb A W => ∃ (u0 u1 u2 u3 u4 u5 u6 u7 u8 u9 u10 u11 u12 u13 u14 : Bool) (n12 : Nat) (r13 : Value), Lb = #[u0, u1, u2, u3, u4, u5, u6, u7, u8, u9, u10, u11, u12, u13, u14] ∧ A = ({ tmps := #[s0, .slice (some ⟨b, po, none⟩) n cap, s2, s3, s4, s5, s6, s7, s8, s9, (bif u14 then r13 else rv), .int .i64 (i : Int), s12, s13, s14, s15, s16, s17, s18, s19, s20, s21, s22, s23, s24, s25, s26, s27, s28, s29, s30, s31, s32, s33, s34, s35, s36, s37, s38, s39, (bif u0 then rv else s40), (bif u1 then .slice (some ⟨b, po, none⟩) n cap else s41), (bif u2 then .int .i64 (i : Int) else s42), (bif u3 then .pointer (some ⟨b, po + i * 4, none⟩) else s43), (bif u4 then .pointer (some ⟨b, po + i * 4, none⟩) else s44), (bif u5 then .int .i64 x0 else s45), (bif u6 then .slice (some ⟨b, po, none⟩) n cap else s46), (bif u7 then .int .i64 (i : Int) else s47), (bif u8 then .pointer (some ⟨b, po + i * 4, none⟩) else s48), (bif u9 then .pointer (some ⟨b, po + i * 4 + 2, none⟩) else s49), (bif u10 then .int .i64 y0 else s50), (bif u11 then .int .i64 ln else s51), (bif u12 then .slice (some ⟨n12, 0, none⟩) 1 1 else s52), (bif u13 then r13 else s53), s54, s55, s56, s57, s58, s59, s60, s61, s62, s63, s64, s65, s66, s67, s68, s69, s70, s71, s72, s73, s74, s75, s76, s77, s78, s79, s80, s81, s82, s83, s84, s85, s86, s87, s88, s89, s90, s91, s92, s93, s94, s95, s96, s97, s98, s99, s100, s101, s102, s103, s104, s105, s106, s107, s108, s109, s110, s111, s112, s113, s114, s115, s116, s117, s118, s119, s120, s121, s122, s123, s124, s125, s126, s127, s128], defers := [] } : Act) ∧ (u13 = false → Below V.heap.size V W) ∧ (u12 = true → u13 = false → vb W n12 3 [.int .i64 ln]) ∧ (u13 = true → ∃ W1, Below V.heap.size V W1 ∧ Row W B 3 1 r13 (k + 1) (L ++ [ln]) ∧ W1.grownBy W rv.ownBlock ∧ NewBlk W1 rv r13) ∧ (u3 = true → u1 = true ∧ u2 = true) ∧ (u4 = true → u3 = true) ∧ (u5 = true → u4 = true) ∧ (u8 = true → u6 = true ∧ u7 = true) ∧ (u9 = true → u8 = true) ∧ (u10 = true → u9 = true) ∧ (u11 = true → u5 = true ∧ u10 = true) ∧ (u12 = true → u11 = true) ∧ (u13 = true → u0 = true ∧ u12 = true) ∧ (u14 = true → u0 = true ∧ u1 = true ∧ u2 = true ∧ u3 = true ∧ u4 = true ∧ u5 = true ∧ u6 = true ∧ u7 = true ∧ u8 = true ∧ u9 = true ∧ u10 = true ∧ u11 = true ∧ u12 = true ∧ u13 = true)) (by kernel_rfl) (by kernel_rfl) ?h0 ?hstep ?hend
  case h0 =>
    exact ⟨false, false, false, false, false, false, false, false, false, false, false, false, false, false, false, 0, undef, rfl, rfl, (fun _ => Below.drew (Below.refl _ _)), zf, zf, zf, zf, zf, zf, zf, zf, zf, zf, zf, zf⟩
  case hstep =>
    intro Lb A W hI
    obtain ⟨u0, u1, u2, u3, u4, hI⟩ := hI
    obtain ⟨u5, u6, u7, u8, u9, hI⟩ := hI
    obtain ⟨u10, u11, u12, u13, u14, hI⟩ := hI
    obtain ⟨n12, r13, hI⟩ := hI
    obtain ⟨hLb, hI⟩ := hI
    obtain ⟨hA, hI⟩ := hI
    obtain ⟨kB, hI⟩ := hI
    obtain ⟨k12, hI⟩ := hI
    obtain ⟨kZ, hI⟩ := hI
    obtain ⟨l3, hI⟩ := hI
    obtain ⟨l4, hI⟩ := hI
    obtain ⟨l5, hI⟩ := hI
    obtain ⟨l8, hI⟩ := hI
    obtain ⟨l9, hI⟩ := hI
    obtain ⟨l10, hI⟩ := hI
    obtain ⟨l11, hI⟩ := hI
    obtain ⟨l12, hI⟩ := hI
    obtain ⟨l13, hI⟩ := hI
    have kF := hI
    clear hI
    subst hLb
    subst hA
    replace kB := hide kB
    replace k12 := hide k12
    replace kZ := hide kZ
    replace l3 := hide l3
    replace l4 := hide l4
    replace l5 := hide l5
    replace l8 := hide l8
    replace l9 := hide l9
    replace l10 := hide l10
    replace l11 := hide l11
    replace l12 := hide l12
    replace l13 := hide l13
    replace kF := hide kF
    refine ⟨?_, ?_, ?_, ?_, ?_, ?_, ?_, ?_, ?_, ?_, ?_, ?_, ?_, ?_, ?_, trivial⟩
    · intro h0 hd K hK
      have z : u0 = false := h0
      have z14_ : u14 = false := znb fun hu => z.symm.trans ((zu kF hu).1)
      have z13_ : u13 = false := znb fun hu => z.symm.trans ((zu l13 hu).1)
      subst z14_
      subst z13_
      subst z
      clear h0 hd
      rw [if_pos (by rfl)]
      go_simp
      exact unhide hK _ _ ⟨true, u1, u2, u3, u4, u5, u6, u7, u8, u9, u10, u11, u12, false, false, n12, r13, rfl, rfl, zu kB, zu k12, zf, zu l3, zu l4, zu l5, zu l8, zu l9, zu l10, zu l11, zu l12, zf, zf⟩
    · intro h0 hd K hK
      have z : u1 = false := h0
      have z14_ : u14 = false := znb fun hu => z.symm.trans ((zu kF hu).2.1)
      have z13_ : u13 = false := znb fun hu => z.symm.trans ((zu l3 (zu l4 (zu l5 (zu l11 (zu l12 (zu l13 hu).2)).1))).1)
      subst z14_
      subst z13_
      subst z
      clear h0 hd
      rw [if_pos (by rfl)]
      go_simp
      exact unhide hK _ _ ⟨u0, true, u2, u3, u4, u5, u6, u7, u8, u9, u10, u11, u12, false, false, n12, r13, rfl, rfl, zu kB, zu k12, zf, (fun h => ⟨rfl, (zu l3 h).2⟩), zu l4, zu l5, zu l8, zu l9, zu l10, zu l11, zu l12, zf, zf⟩
    · intro h0 hd K hK
      have z : u2 = false := h0
      have z14_ : u14 = false := znb fun hu => z.symm.trans ((zu kF hu).2.2.1)
      have z13_ : u13 = false := znb fun hu => z.symm.trans ((zu l3 (zu l4 (zu l5 (zu l11 (zu l12 (zu l13 hu).2)).1))).2)
      subst z14_
      subst z13_
      subst z
      clear h0 hd
      rw [if_pos (by rfl)]
      go_simp
      exact unhide hK _ _ ⟨u0, u1, true, u3, u4, u5, u6, u7, u8, u9, u10, u11, u12, false, false, n12, r13, rfl, rfl, zu kB, zu k12, zf, (fun h => ⟨(zu l3 h).1, rfl⟩), zu l4, zu l5, zu l8, zu l9, zu l10, zu l11, zu l12, zf, zf⟩
    · intro h0 hd K hK
      have z : u3 = false := h0
      have z14_ : u14 = false := znb fun hu => z.symm.trans ((zu kF hu).2.2.2.1)
      have z13_ : u13 = false := znb fun hu => z.symm.trans ((zu l4 (zu l5 (zu l11 (zu l12 (zu l13 hu).2)).1)))
      have zd : u1 = true ∧ u2 = true := by
        simp [Region.binds] at hd
        simp [hd]
      obtain ⟨rfl, rfl⟩ := zd
      subst z14_
      subst z13_
      subst z
      clear h0 hd
      rw [if_pos (by rfl)]
      have q1 : i < n := unhide HX
      have q2 : (i : Int) < (n : Int) := by omega
      go_simp
      exact unhide hK _ _ ⟨u0, true, true, true, u4, u5, u6, u7, u8, u9, u10, u11, u12, false, false, n12, r13, rfl, rfl, zu kB, zu k12, zf, (fun _ => ⟨rfl, rfl⟩), (fun h => rfl), zu l5, zu l8, zu l9, zu l10, zu l11, zu l12, zf, zf⟩
    · intro h0 hd K hK
      have z : u4 = false := h0
      have z14_ : u14 = false := znb fun hu => z.symm.trans ((zu kF hu).2.2.2.2.1)
      have z13_ : u13 = false := znb fun hu => z.symm.trans ((zu l5 (zu l11 (zu l12 (zu l13 hu).2)).1))
      have zd : u3 = true := by
        simp [Region.binds] at hd
        simp [hd]
      obtain ⟨rfl⟩ := zd
      subst z14_
      subst z13_
      subst z
      clear h0 hd
      rw [if_pos (by rfl)]
      go_simp
      exact unhide hK _ _ ⟨u0, u1, u2, true, true, u5, u6, u7, u8, u9, u10, u11, u12, false, false, n12, r13, rfl, rfl, zu kB, zu k12, zf, zu l3, (fun _ => rfl), (fun h => rfl), zu l8, zu l9, zu l10, zu l11, zu l12, zf, zf⟩
    · intro h0 hd K hK
      have z : u5 = false := h0
      have z14_ : u14 = false := znb fun hu => z.symm.trans ((zu kF hu).2.2.2.2.2.1)
      have z13_ : u13 = false := znb fun hu => z.symm.trans ((zu l11 (zu l12 (zu l13 hu).2)).1)
      have zd : u4 = true := by
        simp [Region.binds] at hd
        simp [hd]
      obtain ⟨rfl⟩ := zd
      subst z14_
      subst z13_
      subst z
      clear h0 hd
      rw [if_pos (by rfl)]
      have c0 := keep1 (zu kB rfl) (unhide HA0)
      go_simp
      exact unhide hK _ _ ⟨u0, u1, u2, u3, true, true, u6, u7, u8, u9, u10, u11, u12, false, false, n12, r13, rfl, rfl, zu kB, zu k12, zf, zu l3, zu l4, (fun _ => rfl), zu l8, zu l9, zu l10, (fun h => ⟨rfl, (zu l11 h).2⟩), zu l12, zf, zf⟩
    · intro h0 hd K hK
      have z : u6 = false := h0
      have z14_ : u14 = false := znb fun hu => z.symm.trans ((zu kF hu).2.2.2.2.2.2.1)
      have z13_ : u13 = false := znb fun hu => z.symm.trans ((zu l8 (zu l9 (zu l10 (zu l11 (zu l12 (zu l13 hu).2)).2))).1)
      subst z14_
      subst z13_
      subst z
      clear h0 hd
      rw [if_pos (by rfl)]
      go_simp
      exact unhide hK _ _ ⟨u0, u1, u2, u3, u4, u5, true, u7, u8, u9, u10, u11, u12, false, false, n12, r13, rfl, rfl, zu kB, zu k12, zf, zu l3, zu l4, zu l5, (fun h => ⟨rfl, (zu l8 h).2⟩), zu l9, zu l10, zu l11, zu l12, zf, zf⟩
    · intro h0 hd K hK
      have z : u7 = false := h0
      have z14_ : u14 = false := znb fun hu => z.symm.trans ((zu kF hu).2.2.2.2.2.2.2.1)
      have z13_ : u13 = false := znb fun hu => z.symm.trans ((zu l8 (zu l9 (zu l10 (zu l11 (zu l12 (zu l13 hu).2)).2))).2)
      subst z14_
      subst z13_
      subst z
      clear h0 hd
      rw [if_pos (by rfl)]
      go_simp
      exact unhide hK _ _ ⟨u0, u1, u2, u3, u4, u5, u6, true, u8, u9, u10, u11, u12, false, false, n12, r13, rfl, rfl, zu kB, zu k12, zf, zu l3, zu l4, zu l5, (fun h => ⟨(zu l8 h).1, rfl⟩), zu l9, zu l10, zu l11, zu l12, zf, zf⟩
    · intro h0 hd K hK
      have z : u8 = false := h0
      have z14_ : u14 = false := znb fun hu => z.symm.trans ((zu kF hu).2.2.2.2.2.2.2.2.1)
      have z13_ : u13 = false := znb fun hu => z.symm.trans ((zu l9 (zu l10 (zu l11 (zu l12 (zu l13 hu).2)).2)))
      have zd : u6 = true ∧ u7 = true := by
        simp [Region.binds] at hd
        simp [hd]
      obtain ⟨rfl, rfl⟩ := zd
      subst z14_
      subst z13_
      subst z
      clear h0 hd
      rw [if_pos (by rfl)]
      have q1 : i < n := unhide HX
      have q2 : (i : Int) < (n : Int) := by omega
      go_simp
      exact unhide hK _ _ ⟨u0, u1, u2, u3, u4, u5, true, true, true, u9, u10, u11, u12, false, false, n12, r13, rfl, rfl, zu kB, zu k12, zf, zu l3, zu l4, zu l5, (fun _ => ⟨rfl, rfl⟩), (fun h => rfl), zu l10, zu l11, zu l12, zf, zf⟩
    · intro h0 hd K hK
      have z : u9 = false := h0
      have z14_ : u14 = false := znb fun hu => z.symm.trans ((zu kF hu).2.2.2.2.2.2.2.2.2.1)
      have z13_ : u13 = false := znb fun hu => z.symm.trans ((zu l10 (zu l11 (zu l12 (zu l13 hu).2)).2))
      have zd : u8 = true := by
        simp [Region.binds] at hd
        simp [hd]
      obtain ⟨rfl⟩ := zd
      subst z14_
      subst z13_
      subst z
      clear h0 hd
      rw [if_pos (by rfl)]
      go_simp
      exact unhide hK _ _ ⟨u0, u1, u2, u3, u4, u5, u6, u7, true, true, u10, u11, u12, false, false, n12, r13, rfl, rfl, zu kB, zu k12, zf, zu l3, zu l4, zu l5, zu l8, (fun _ => rfl), (fun h => rfl), zu l11, zu l12, zf, zf⟩
    · intro h0 hd K hK
      have z : u10 = false := h0
      have z14_ : u14 = false := znb fun hu => z.symm.trans ((zu kF hu).2.2.2.2.2.2.2.2.2.2.1)
      have z13_ : u13 = false := znb fun hu => z.symm.trans ((zu l11 (zu l12 (zu l13 hu).2)).2)
      have zd : u9 = true := by
        simp [Region.binds] at hd
        simp [hd]
      obtain ⟨rfl⟩ := zd
      subst z14_
      subst z13_
      subst z
      clear h0 hd
      rw [if_pos (by rfl)]
      have c0 := keep1 (zu kB rfl) (unhide HA1)
      go_simp
      exact unhide hK _ _ ⟨u0, u1, u2, u3, u4, u5, u6, u7, u8, true, true, u11, u12, false, false, n12, r13, rfl, rfl, zu kB, zu k12, zf, zu l3, zu l4, zu l5, zu l8, zu l9, (fun _ => rfl), (fun h => ⟨(zu l11 h).1, rfl⟩), zu l12, zf, zf⟩
    · intro h0 hd K hK
      have z : u11 = false := h0
      have z14_ : u14 = false := znb fun hu => z.symm.trans ((zu kF hu).2.2.2.2.2.2.2.2.2.2.2.1)
      have z13_ : u13 = false := znb fun hu => z.symm.trans ((zu l12 (zu l13 hu).2))
      have zd : u5 = true ∧ u10 = true := by
        simp [Region.binds] at hd
        simp [hd]
      obtain ⟨rfl, rfl⟩ := zd
      subst z14_
      subst z13_
      subst z
      clear h0 hd
      rw [if_pos (by rfl)]
      have wq := unhide HWr
      go_simp
      exact unhide hK _ _ ⟨u0, u1, u2, u3, u4, true, u6, u7, u8, u9, true, true, u12, false, false, n12, r13, rfl, rfl, zu kB, zu k12, zf, zu l3, zu l4, zu l5, zu l8, zu l9, zu l10, (fun _ => ⟨rfl, rfl⟩), (fun h => rfl), zf, zf⟩
    · intro h0 hd K hK
      have z : u12 = false := h0
      have z14_ : u14 = false := znb fun hu => z.symm.trans ((zu kF hu).2.2.2.2.2.2.2.2.2.2.2.2.1)
      have z13_ : u13 = false := znb fun hu => z.symm.trans ((zu l13 hu).2)
      have zd : u11 = true := by
        simp [Region.binds] at hd
        simp [hd]
      obtain ⟨rfl⟩ := zd
      subst z14_
      subst z13_
      subst z
      clear h0 hd
      rw [if_pos (by rfl)]
      go_simp
      exact unhide hK _ _ ⟨u0, u1, u2, u3, u4, u5, u6, u7, u8, u9, u10, true, true, false, false, W.heap.size, r13, rfl, rfl, (fun _ => ba (zu kB rfl) _), (fun _ _ => vb_new W 3 [.int .i64 ln] _ rfl), zf, zu l3, zu l4, zu l5, zu l8, zu l9, zu l10, zu l11, (fun _ => rfl), zf, zf⟩
    · intro h0 hd K hK
      have z : u13 = false := h0
      have z14_ : u14 = false := znb fun hu => z.symm.trans ((zu kF hu).2.2.2.2.2.2.2.2.2.2.2.2.2)
      have zd : u0 = true ∧ u12 = true := by
        simp [Region.binds] at hd
        simp [hd]
      obtain ⟨rfl, rfl⟩ := zd
      subst z14_
      subst z
      clear h0 hd
      rw [if_pos (by rfl)]
      have h7 := zu k12 rfl rfl
      have hb := (zu kB rfl)
      refine wp_append_new W (.tmp 40) (.tmp 52) 51 (by rfl) B 3 iP _ 1 8 Try.underlying51 hi1 hy0 hy1 hy2 rfl (by decide) rv k (L.map (Value.int .i64)) (by rfl) ((unhide HR).below hb) ⟨n12, 0, none⟩ 1 1 ([ln].map (Value.int .i64)) (by rfl) (by rfl) (src_vb h7) ints_one (by unfold maxLen; omega) (by omega) (Nat.le_trans hBV hb.size) ?_
      intro r8' w1 hown' hgrow _ hnb
      have R : Row w1 B 3 1 r8' (k + 1) (L ++ [ln]) := by unfold Row; rw [List.map_append]; exact hown'
      exact unhide hK _ _ ⟨true, u1, u2, u3, u4, u5, u6, u7, u8, u9, u10, u11, true, true, false, n12, r8', rfl, rfl, zt, (fun _ => zt), (fun _ => ⟨W, hb, R, hgrow, hnb⟩), zu l3, zu l4, zu l5, zu l8, zu l9, zu l10, zu l11, zu l12, (fun _ => ⟨rfl, rfl⟩), zf⟩
    · intro h0 hd K hK
      have z : u14 = false := h0
      have zd0 : u0 = true ∧ u1 = true ∧ u2 = true ∧ u3 = true ∧ u4 = true ∧ u5 = true ∧ u6 = true ∧ u7 = true ∧ u8 = true ∧ u9 = true ∧ u10 = true ∧ u11 = true ∧ u12 = true ∧ u13 = true := by
        simp [Region.binds] at hd
        simp [hd]
      have zd : u0 = true ∧ u1 = true ∧ u2 = true ∧ u3 = true ∧ u4 = true ∧ u5 = true ∧ u6 = true ∧ u7 = true ∧ u8 = true ∧ u9 = true ∧ u10 = true ∧ u11 = true ∧ u12 = true ∧ u13 = true := ⟨zd0.1, zd0.2.1, zd0.2.2.1, zd0.2.2.2.1, zd0.2.2.2.2.1, zd0.2.2.2.2.2.1, zd0.2.2.2.2.2.2.1, zd0.2.2.2.2.2.2.2.1, zd0.2.2.2.2.2.2.2.2.1, zd0.2.2.2.2.2.2.2.2.2.1, zd0.2.2.2.2.2.2.2.2.2.2.1, zd0.2.2.2.2.2.2.2.2.2.2.2.1, zd0.2.2.2.2.2.2.2.2.2.2.2.2.1, zd0.2.2.2.2.2.2.2.2.2.2.2.2.2⟩
      obtain ⟨rfl, rfl, rfl, rfl, rfl, rfl, rfl, rfl, rfl, rfl, rfl, rfl, rfl, rfl⟩ := zd
      subst z
      clear h0 hd
      rw [if_pos (by rfl)]
      go_simp
      exact unhide hK _ _ ⟨true, true, true, true, true, true, true, true, true, true, true, true, true, true, true, n12, r13, rfl, rfl, zu kB, (fun _ => zt), zu kZ, (fun _ => ⟨rfl, rfl⟩), (fun _ => rfl), (fun _ => rfl), (fun _ => ⟨rfl, rfl⟩), (fun _ => rfl), (fun _ => rfl), (fun _ => ⟨rfl, rfl⟩), (fun _ => rfl), (fun _ => ⟨rfl, rfl⟩), (fun _ => ⟨rfl, rfl, rfl, rfl, rfl, rfl, rfl, rfl, rfl, rfl, rfl, rfl, rfl, rfl⟩)⟩
  case hend =>
    intro Lb A W hI
    obtain ⟨u0, u1, u2, u3, u4, hI⟩ := hI
    obtain ⟨u5, u6, u7, u8, u9, hI⟩ := hI
    obtain ⟨u10, u11, u12, u13, u14, hI⟩ := hI
    obtain ⟨n12, r13, hI⟩ := hI
    obtain ⟨hLb, hI⟩ := hI
    obtain ⟨hA, hI⟩ := hI
    obtain ⟨kB, hI⟩ := hI
    obtain ⟨k12, hI⟩ := hI
    obtain ⟨kZ, hI⟩ := hI
    obtain ⟨l3, hI⟩ := hI
    obtain ⟨l4, hI⟩ := hI
    obtain ⟨l5, hI⟩ := hI
    obtain ⟨l8, hI⟩ := hI
    obtain ⟨l9, hI⟩ := hI
    obtain ⟨l10, hI⟩ := hI
    obtain ⟨l11, hI⟩ := hI
    obtain ⟨l12, hI⟩ := hI
    obtain ⟨l13, hI⟩ := hI
    have kF := hI
    clear hI
    subst hLb
    subst hA
    intro hL
    have hl : u0 = true ∧ u1 = true ∧ u2 = true ∧ u3 = true ∧ u4 = true ∧ u5 = true ∧ u6 = true ∧ u7 = true ∧ u8 = true ∧ u9 = true ∧ u10 = true ∧ u11 = true ∧ u12 = true ∧ u13 = true ∧ u14 = true := by
      have h2 := congrArg Array.toList hL
      simpa [List.replicate] using h2
    obtain ⟨rfl, rfl, rfl, rfl, rfl, rfl, rfl, rfl, rfl, rfl, rfl, rfl, rfl, rfl, rfl⟩ := hl
    obtain ⟨W1, z1, z2, z3, z4⟩ := kZ rfl
    exact unhide HQ n12 r13 W1 W z1 z2 z3 z4

end Go.Proofs.Ytoidhlackoigkaa
