/-
  Statements of the model's Sway that draw their order.
-/
import Derived.Test.YtgocgcnpgmamiaaSpP
import Derived.Test.YtgocgcnpgmamiaaInv2
namespace Go.Proofs.Ytgocgcnpgmamiaa
open Go.ChangeShapes Go.WideShapes Go.ChangeAt Go.RowKit
set_option linter.unusedVariables false
set_option linter.unusedSimpArgs false

attribute [local go_sem] run_store_flt run_store_cpx
noncomputable def rg13 (id : Nat) : Go.Code := match Try.f13.body with | some c => (regOfZ id c).getD .skip | none => .skip
theorem src_vb {w : World} {g t : Nat} {L : List Nat} (h : vb w g t (L.map (Value.float .f64))) : ∀ (j : Nat) (u : Value), (L.map (Value.float .f64))[j]? = some u → w.cell? ((⟨g, 0, none⟩ : Addr).add j) = some u := by
  intro j u hj
  rw [add_none, Nat.zero_add]
  exact h.cell hj
set_option maxHeartbeats 4000000 in
set_option maxRecDepth 100000 in
theorem sw5 {s2 s3 s4 s5 s6 s7 s8 s9 s10 s11 s12 s13 s14 s15 s16 s17 s18 s19 s20 s21 s22 s23 s24 s25 s26 s27 s28 s29 s30 s31 s32 s33 s34 s35 s36 s37 s38 s39 s40 s41 s42 s43 s44 s45 s46 s47 s48 s49 s50 s51 s52 s53 s54 s55 s56 s57 s58 s59 s60 s61 s62 s63 s64 s65 s66 s67 s68 s69 s70 s71 s72 s73 s74 s75 s76 s77 s78 s79 s80 s81 s82 s83 s84 s85 s86 s87 s88 s89 s90 s91 s92 s93 s94 s95 s96 s97 s98 s99 s100 s101 s102 s103 s104 s105 s106 s107 s108 s109 s110 s111 s112 s113 s114 s115 s116 s117 s118 s119 s120 s121 s122 s123 s124 : Value} {p po n c wb x0 x1 x2 : Nat} {To Tl Ts : Tn} {V : World} {K_ : Act → World → Prop} 
    (HC0 : Hid (V.cell? ⟨p, po, none⟩ = some (.float .f64 x0))) (HC1 : Hid (V.cell? ⟨p, po + 1, none⟩ = some (.float .f64 x1))) (HC2 : Hid (V.cell? ⟨p, po + 2, none⟩ = some (.float .f64 x2))) 
    (HX1 : Hid (0 < n))
    (HF4 : Hid (∀ Xw, Below V.heap.size V Xw → Calls Try.prog 47 #[.agg #[.float .f64 x0, .float .f64 x1, .float .f64 x2], .float .f64 wb] Xw fun e w' => (∃ re4 im4 : Nat, e = .returned (.agg #[.float .f64 re4, .float .f64 im4]) ∧ tv re4 im4 = To) ∧ Below Xw.heap.size Xw w'))
    (HX6 : Hid (0 < n))
    (HF9 : Hid (∀ Xw, Below V.heap.size V Xw → Calls Try.prog 48 #[.agg #[.float .f64 x0, .float .f64 x1, .float .f64 x2], .float .f64 wb] Xw fun e w' => (∃ re9 im9 : Nat, e = .returned (.agg #[.float .f64 re9, .float .f64 im9]) ∧ tv re9 im9 = Tl) ∧ Below Xw.heap.size Xw w'))
    (HF10 : Hid (∀ re4 im4 : Nat, tv re4 im4 = To → ∀ re9 im9 : Nat, tv re9 im9 = Tl → ∀ Xw, Below V.heap.size V Xw → Calls Try.prog 46 #[.agg #[.float .f64 re4, .float .f64 im4], .agg #[.float .f64 re9, .float .f64 im9]] Xw fun e w' => (∃ rex imx : Nat, e = .returned (.agg #[.float .f64 rex, .float .f64 imx]) ∧ tv rex imx = Ts) ∧ Below Xw.heap.size Xw w'))
    (hQ : ∀ (n11 : Nat)  (re4 im4 : Nat) (re9 im9 : Nat) (rex imx : Nat) (W1 : World), Below V.heap.size V W1 → vb W1 n11 33 [.float .f64 rex, .float .f64 imx] → V.heap.size ≤ n11 → tv re4 im4 = To → tv re9 im9 = Tl → tv rex imx = Ts → K_ { tmps := #[.slice (some ⟨p, po, none⟩) n c, .float .f64 wb, s2, s3, s4, s5, .slice (some ⟨n11, 0, none⟩) 1 1, s7, s8, s9, s10, s11, s12, s13, s14, s15, s16, s17, s18, s19, s20, s21, s22, .slice (some ⟨p, po, none⟩) n c, .pointer (some ⟨p, po, none⟩), .agg #[.float .f64 x0, .float .f64 x1, .float .f64 x2], .float .f64 wb, .agg #[.float .f64 re4, .float .f64 im4], .slice (some ⟨p, po, none⟩) n c, .pointer (some ⟨p, po, none⟩), .agg #[.float .f64 x0, .float .f64 x1, .float .f64 x2], .float .f64 wb, .agg #[.float .f64 re9, .float .f64 im9], .agg #[.float .f64 rex, .float .f64 imx], .slice (some ⟨n11, 0, none⟩) 1 1, s35, s36, s37, s38, s39, s40, s41, s42, s43, s44, s45, s46, s47, s48, s49, s50, s51, s52, s53, s54, s55, s56, s57, s58, s59, s60, s61, s62, s63, s64, s65, s66, s67, s68, s69, s70, s71, s72, s73, s74, s75, s76, s77, s78, s79, s80, s81, s82, s83, s84, s85, s86, s87, s88, s89, s90, s91, s92, s93, s94, s95, s96, s97, s98, s99, s100, s101, s102, s103, s104, s105, s106, s107, s108, s109, s110, s111, s112, s113, s114, s115, s116, s117, s118, s119, s120, s121, s122, s123, s124], defers := [] } W1) :
    Go.Code.wp Try.prog (rg13 5) (Only K_) { tmps := #[.slice (some ⟨p, po, none⟩) n c, .float .f64 wb, s2, s3, s4, s5, s6, s7, s8, s9, s10, s11, s12, s13, s14, s15, s16, s17, s18, s19, s20, s21, s22, s23, s24, s25, s26, s27, s28, s29, s30, s31, s32, s33, s34, s35, s36, s37, s38, s39, s40, s41, s42, s43, s44, s45, s46, s47, s48, s49, s50, s51, s52, s53, s54, s55, s56, s57, s58, s59, s60, s61, s62, s63, s64, s65, s66, s67, s68, s69, s70, s71, s72, s73, s74, s75, s76, s77, s78, s79, s80, s81, s82, s83, s84, s85, s86, s87, s88, s89, s90, s91, s92, s93, s94, s95, s96, s97, s98, s99, s100, s101, s102, s103, s104, s105, s106, s107, s108, s109, s110, s111, s112, s113, s114, s115, s116, s117, s118, s119, s120, s121, s122, s123, s124], defers := [] } V := by
  have HQ := hide hQ
  clear hQ
  conv => arg 2; whnf
  refine wp_region_inv2 (fun Lb A W => ∃ (u0 u1 u2 u3 u4 u5 u6 u7 u8 u9 u10 u11 u12 : Bool) (n11 : Nat) (re4 : Nat) (im4 : Nat) (re9 : Nat) (im9 : Nat) (rex : Nat) (imx : Nat), Lb = #[u0, u1, u2, u3, u4, u5, u6, u7, u8, u9, u10, u11, u12] ∧ A = ({ tmps := #[.slice (some ⟨p, po, none⟩) n c, .float .f64 wb, s2, s3, s4, s5, (bif u12 then .slice (some ⟨n11, 0, none⟩) 1 1 else s6), s7, s8, s9, s10, s11, s12, s13, s14, s15, s16, s17, s18, s19, s20, s21, s22, (bif u0 then .slice (some ⟨p, po, none⟩) n c else s23), (bif u1 then .pointer (some ⟨p, po, none⟩) else s24), (bif u2 then .agg #[.float .f64 x0, .float .f64 x1, .float .f64 x2] else s25), (bif u3 then .float .f64 wb else s26), (bif u4 then .agg #[.float .f64 re4, .float .f64 im4] else s27), (bif u5 then .slice (some ⟨p, po, none⟩) n c else s28), (bif u6 then .pointer (some ⟨p, po, none⟩) else s29), (bif u7 then .agg #[.float .f64 x0, .float .f64 x1, .float .f64 x2] else s30), (bif u8 then .float .f64 wb else s31), (bif u9 then .agg #[.float .f64 re9, .float .f64 im9] else s32), (bif u10 then .agg #[.float .f64 rex, .float .f64 imx] else s33), (bif u11 then .slice (some ⟨n11, 0, none⟩) 1 1 else s34), s35, s36, s37, s38, s39, s40, s41, s42, s43, s44, s45, s46, s47, s48, s49, s50, s51, s52, s53, s54, s55, s56, s57, s58, s59, s60, s61, s62, s63, s64, s65, s66, s67, s68, s69, s70, s71, s72, s73, s74, s75, s76, s77, s78, s79, s80, s81, s82, s83, s84, s85, s86, s87, s88, s89, s90, s91, s92, s93, s94, s95, s96, s97, s98, s99, s100, s101, s102, s103, s104, s105, s106, s107, s108, s109, s110, s111, s112, s113, s114, s115, s116, s117, s118, s119, s120, s121, s122, s123, s124], defers := [] } : Act) ∧ Below V.heap.size V W ∧ (u11 = true → vb W n11 33 [.float .f64 rex, .float .f64 imx] ∧ V.heap.size ≤ n11) ∧ (u4 = true → tv re4 im4 = To) ∧ (u9 = true → tv re9 im9 = Tl) ∧ (u10 = true → tv rex imx = Ts) ∧ (u11 = true → u10 = true) ∧ (u12 = true → u0 = true ∧ u1 = true ∧ u2 = true ∧ u3 = true ∧ u4 = true ∧ u5 = true ∧ u6 = true ∧ u7 = true ∧ u8 = true ∧ u9 = true ∧ u10 = true ∧ u11 = true)) (by kernel_rfl) (by kernel_rfl) ?h0 ?hstep ?hend
  case h0 =>
    exact ⟨false, false, false, false, false, false, false, false, false, false, false, false, false, 0, 0, 0, 0, 0, 0, 0, rfl, rfl, Below.drew (Below.refl _ _), zf, zf, zf, zf, zf, zf⟩
  case hstep =>
    intro Lb A W hI
    obtain ⟨u0, u1, u2, u3, u4, hI⟩ := hI
    obtain ⟨u5, u6, u7, u8, u9, hI⟩ := hI
    obtain ⟨u10, u11, u12, n11, re4, hI⟩ := hI
    obtain ⟨im4, re9, im9, rex, imx, hI⟩ := hI
    obtain ⟨hLb, hI⟩ := hI
    obtain ⟨hA, hI⟩ := hI
    obtain ⟨kB, hI⟩ := hI
    obtain ⟨k11, hI⟩ := hI
    obtain ⟨kx4, hI⟩ := hI
    obtain ⟨kx9, hI⟩ := hI
    obtain ⟨kx10, hI⟩ := hI
    obtain ⟨l11, hI⟩ := hI
    have kF := hI
    clear hI
    subst hLb
    subst hA
    replace kB := hide kB
    replace k11 := hide k11
    replace kx4 := hide kx4
    replace kx9 := hide kx9
    replace kx10 := hide kx10
    replace l11 := hide l11
    replace kF := hide kF
    refine ⟨?_, ?_, ?_, ?_, ?_, ?_, ?_, ?_, ?_, ?_, ?_, ?_, ?_, trivial⟩
    · intro h0 hd K hK
      have z : u0 = false := h0
      have z12_ : u12 = false := znb fun hu => z.symm.trans ((zu kF hu).1)
      subst z12_
      subst z
      clear h0 hd
      rw [if_pos (by rfl)]
      go_simp
      exact unhide hK _ _ ⟨true, u1, u2, u3, u4, u5, u6, u7, u8, u9, u10, u11, false, n11, re4, im4, re9, im9, rex, imx, rfl, rfl, zu kB, zu k11, zu kx4, zu kx9, zu kx10, zu l11, zf⟩
    · intro h0 hd K hK
      have z : u1 = false := h0
      have z12_ : u12 = false := znb fun hu => z.symm.trans ((zu kF hu).2.1)
      have zd : u0 = true := by
        simp [Region.binds] at hd
        simp [hd]
      obtain ⟨rfl⟩ := zd
      subst z12_
      subst z
      clear h0 hd
      rw [if_pos (by rfl)]
      have q1 : 0 < n := unhide HX1
      have q2 : (0 : Int) < (n : Int) := by omega
      go_simp
      exact unhide hK _ _ ⟨true, true, u2, u3, u4, u5, u6, u7, u8, u9, u10, u11, false, n11, re4, im4, re9, im9, rex, imx, rfl, rfl, zu kB, zu k11, zu kx4, zu kx9, zu kx10, zu l11, zf⟩
    · intro h0 hd K hK
      have z : u2 = false := h0
      have z12_ : u12 = false := znb fun hu => z.symm.trans ((zu kF hu).2.2.1)
      have zd : u1 = true := by
        simp [Region.binds] at hd
        simp [hd]
      obtain ⟨rfl⟩ := zd
      subst z12_
      subst z
      clear h0 hd
      rw [if_pos (by rfl)]
      have c0 := keep1 (zu kB) (unhide HC0)
      have c1 := keep1 (zu kB) (unhide HC1)
      have c2 := keep1 (zu kB) (unhide HC2)
      go_simp
      exact unhide hK _ _ ⟨u0, true, true, u3, u4, u5, u6, u7, u8, u9, u10, u11, false, n11, re4, im4, re9, im9, rex, imx, rfl, rfl, zu kB, zu k11, zu kx4, zu kx9, zu kx10, zu l11, zf⟩
    · intro h0 hd K hK
      have z : u3 = false := h0
      have z12_ : u12 = false := znb fun hu => z.symm.trans ((zu kF hu).2.2.2.1)
      subst z12_
      subst z
      clear h0 hd
      rw [if_pos (by rfl)]
      go_simp
      exact unhide hK _ _ ⟨u0, u1, u2, true, u4, u5, u6, u7, u8, u9, u10, u11, false, n11, re4, im4, re9, im9, rex, imx, rfl, rfl, zu kB, zu k11, zu kx4, zu kx9, zu kx10, zu l11, zf⟩
    · intro h0 hd K hK
      have z : u4 = false := h0
      have z12_ : u12 = false := znb fun hu => z.symm.trans ((zu kF hu).2.2.2.2.1)
      have zd : u2 = true ∧ u3 = true := by
        simp [Region.binds] at hd
        simp [hd]
      obtain ⟨rfl, rfl⟩ := zd
      subst z12_
      subst z
      clear h0 hd
      rw [if_pos (by rfl)]
      go_simp
      refine (unhide HF4 W (zu kB)).mono ?_
      rintro e w8 ⟨⟨re4_, im4_, rfl, hr_⟩, hb8⟩
      exact unhide hK _ _ ⟨u0, u1, true, true, true, u5, u6, u7, u8, u9, u10, u11, false, n11, re4_, im4_, re9, im9, rex, imx, rfl, rfl, bc (zu kB) hb8, (fun h => ⟨(zu k11 h).1.bel hb8, (zu k11 h).2⟩), (fun _ => hr_), zu kx9, zu kx10, zu l11, zf⟩
    · intro h0 hd K hK
      have z : u5 = false := h0
      have z12_ : u12 = false := znb fun hu => z.symm.trans ((zu kF hu).2.2.2.2.2.1)
      subst z12_
      subst z
      clear h0 hd
      rw [if_pos (by rfl)]
      go_simp
      exact unhide hK _ _ ⟨u0, u1, u2, u3, u4, true, u6, u7, u8, u9, u10, u11, false, n11, re4, im4, re9, im9, rex, imx, rfl, rfl, zu kB, zu k11, zu kx4, zu kx9, zu kx10, zu l11, zf⟩
    · intro h0 hd K hK
      have z : u6 = false := h0
      have z12_ : u12 = false := znb fun hu => z.symm.trans ((zu kF hu).2.2.2.2.2.2.1)
      have zd : u5 = true := by
        simp [Region.binds] at hd
        simp [hd]
      obtain ⟨rfl⟩ := zd
      subst z12_
      subst z
      clear h0 hd
      rw [if_pos (by rfl)]
      have q1 : 0 < n := unhide HX6
      have q2 : (0 : Int) < (n : Int) := by omega
      go_simp
      exact unhide hK _ _ ⟨u0, u1, u2, u3, u4, true, true, u7, u8, u9, u10, u11, false, n11, re4, im4, re9, im9, rex, imx, rfl, rfl, zu kB, zu k11, zu kx4, zu kx9, zu kx10, zu l11, zf⟩
    · intro h0 hd K hK
      have z : u7 = false := h0
      have z12_ : u12 = false := znb fun hu => z.symm.trans ((zu kF hu).2.2.2.2.2.2.2.1)
      have zd : u6 = true := by
        simp [Region.binds] at hd
        simp [hd]
      obtain ⟨rfl⟩ := zd
      subst z12_
      subst z
      clear h0 hd
      rw [if_pos (by rfl)]
      have c0 := keep1 (zu kB) (unhide HC0)
      have c1 := keep1 (zu kB) (unhide HC1)
      have c2 := keep1 (zu kB) (unhide HC2)
      go_simp
      exact unhide hK _ _ ⟨u0, u1, u2, u3, u4, u5, true, true, u8, u9, u10, u11, false, n11, re4, im4, re9, im9, rex, imx, rfl, rfl, zu kB, zu k11, zu kx4, zu kx9, zu kx10, zu l11, zf⟩
    · intro h0 hd K hK
      have z : u8 = false := h0
      have z12_ : u12 = false := znb fun hu => z.symm.trans ((zu kF hu).2.2.2.2.2.2.2.2.1)
      subst z12_
      subst z
      clear h0 hd
      rw [if_pos (by rfl)]
      go_simp
      exact unhide hK _ _ ⟨u0, u1, u2, u3, u4, u5, u6, u7, true, u9, u10, u11, false, n11, re4, im4, re9, im9, rex, imx, rfl, rfl, zu kB, zu k11, zu kx4, zu kx9, zu kx10, zu l11, zf⟩
    · intro h0 hd K hK
      have z : u9 = false := h0
      have z12_ : u12 = false := znb fun hu => z.symm.trans ((zu kF hu).2.2.2.2.2.2.2.2.2.1)
      have zd : u7 = true ∧ u8 = true ∧ u4 = true := by
        simp [Region.binds] at hd
        simp [hd]
      obtain ⟨rfl, rfl, rfl⟩ := zd
      subst z12_
      subst z
      clear h0 hd
      rw [if_pos (by rfl)]
      go_simp
      refine (unhide HF9 W (zu kB)).mono ?_
      rintro e w8 ⟨⟨re9_, im9_, rfl, hr_⟩, hb8⟩
      exact unhide hK _ _ ⟨u0, u1, u2, u3, true, u5, u6, true, true, true, u10, u11, false, n11, re4, im4, re9_, im9_, rex, imx, rfl, rfl, bc (zu kB) hb8, (fun h => ⟨(zu k11 h).1.bel hb8, (zu k11 h).2⟩), zu kx4, (fun _ => hr_), zu kx10, zu l11, zf⟩
    · intro h0 hd K hK
      have z : u10 = false := h0
      have z12_ : u12 = false := znb fun hu => z.symm.trans ((zu kF hu).2.2.2.2.2.2.2.2.2.2.1)
      have z11_ : u11 = false := znb fun hu => z.symm.trans ((zu l11 hu))
      have zd : u4 = true ∧ u9 = true := by
        simp [Region.binds] at hd
        simp [hd]
      obtain ⟨rfl, rfl⟩ := zd
      subst z12_
      subst z11_
      subst z
      clear h0 hd
      rw [if_pos (by rfl)]
      go_simp
      refine (unhide HF10 _ _ (zu kx4 rfl) _ _ (zu kx9 rfl) W (zu kB)).mono ?_
      rintro e w8 ⟨⟨rex_, imx_, rfl, hr_⟩, hb8⟩
      exact unhide hK _ _ ⟨u0, u1, u2, u3, true, u5, u6, u7, u8, true, true, false, false, n11, re4, im4, re9, im9, rex_, imx_, rfl, rfl, bc (zu kB) hb8, zf, zu kx4, zu kx9, (fun _ => hr_), zf, zf⟩
    · intro h0 hd K hK
      have z : u11 = false := h0
      have z12_ : u12 = false := znb fun hu => z.symm.trans ((zu kF hu).2.2.2.2.2.2.2.2.2.2.2)
      have zd : u10 = true := by
        simp [Region.binds] at hd
        simp [hd]
      obtain ⟨rfl⟩ := zd
      subst z12_
      subst z
      clear h0 hd
      rw [if_pos (by rfl)]
      go_simp
      exact unhide hK _ _ ⟨u0, u1, u2, u3, u4, u5, u6, u7, u8, u9, true, true, false, W.heap.size, re4, im4, re9, im9, rex, imx, rfl, rfl, ba (zu kB) _, (fun _ => ⟨vb_new W 33 _ _ rfl, (zu kB).size⟩), zu kx4, zu kx9, zu kx10, (fun _ => rfl), zf⟩
    · intro h0 hd K hK
      have z : u12 = false := h0
      have zd0 : u0 = true ∧ u1 = true ∧ u2 = true ∧ u3 = true ∧ u4 = true ∧ u5 = true ∧ u6 = true ∧ u7 = true ∧ u8 = true ∧ u9 = true ∧ u10 = true ∧ u11 = true := by
        simp [Region.binds] at hd
        simp [hd]
      have zd : u0 = true ∧ u1 = true ∧ u2 = true ∧ u3 = true ∧ u4 = true ∧ u5 = true ∧ u6 = true ∧ u7 = true ∧ u8 = true ∧ u9 = true ∧ u10 = true ∧ u11 = true := ⟨zd0.1, zd0.2.1, zd0.2.2.1, zd0.2.2.2.1, zd0.2.2.2.2.1, zd0.2.2.2.2.2.1, zd0.2.2.2.2.2.2.1, zd0.2.2.2.2.2.2.2.1, zd0.2.2.2.2.2.2.2.2.1, zd0.2.2.2.2.2.2.2.2.2.1, zd0.2.2.2.2.2.2.2.2.2.2.1, zd0.2.2.2.2.2.2.2.2.2.2.2⟩
      obtain ⟨rfl, rfl, rfl, rfl, rfl, rfl, rfl, rfl, rfl, rfl, rfl, rfl⟩ := zd
      subst z
      clear h0 hd
      rw [if_pos (by rfl)]
      go_simp
      exact unhide hK _ _ ⟨true, true, true, true, true, true, true, true, true, true, true, true, true, n11, re4, im4, re9, im9, rex, imx, rfl, rfl, zu kB, zu k11, zu kx4, zu kx9, zu kx10, (fun _ => rfl), (fun _ => ⟨rfl, rfl, rfl, rfl, rfl, rfl, rfl, rfl, rfl, rfl, rfl, rfl⟩)⟩
  case hend =>
    intro Lb A W hI
    obtain ⟨u0, u1, u2, u3, u4, hI⟩ := hI
    obtain ⟨u5, u6, u7, u8, u9, hI⟩ := hI
    obtain ⟨u10, u11, u12, n11, re4, hI⟩ := hI
    obtain ⟨im4, re9, im9, rex, imx, hI⟩ := hI
    obtain ⟨hLb, hI⟩ := hI
    obtain ⟨hA, hI⟩ := hI
    obtain ⟨kB, hI⟩ := hI
    obtain ⟨k11, hI⟩ := hI
    obtain ⟨kx4, hI⟩ := hI
    obtain ⟨kx9, hI⟩ := hI
    obtain ⟨kx10, hI⟩ := hI
    obtain ⟨l11, hI⟩ := hI
    have kF := hI
    clear hI
    subst hLb
    subst hA
    intro hL
    have hl : u0 = true ∧ u1 = true ∧ u2 = true ∧ u3 = true ∧ u4 = true ∧ u5 = true ∧ u6 = true ∧ u7 = true ∧ u8 = true ∧ u9 = true ∧ u10 = true ∧ u11 = true ∧ u12 = true := by
      have h2 := congrArg Array.toList hL
      simpa [List.replicate] using h2
    obtain ⟨rfl, rfl, rfl, rfl, rfl, rfl, rfl, rfl, rfl, rfl, rfl, rfl, rfl⟩ := hl
    exact unhide HQ n11 re4 im4 re9 im9 rex imx W kB (k11 rfl).1 (k11 rfl).2 (kx4 rfl) (kx9 rfl) (kx10 rfl)

set_option maxHeartbeats 4000000 in
set_option maxRecDepth 100000 in
theorem sw10 {s0 s1 s2 s3 s4 s5 s9 s10 s11 s12 s13 s14 s15 s16 s17 s18 s19 s20 s21 s22 s23 s24 s25 s26 s27 s28 s29 s30 s31 s32 s33 s34 s35 s36 s37 s38 s39 s40 s41 s42 s43 s44 s45 s46 s47 s48 s49 s50 s51 s52 s53 s54 s55 s56 s57 s58 s59 s60 s61 s62 s63 s64 s65 s66 s67 s68 s69 s70 s71 s72 s73 s74 s75 s76 s77 s78 s79 s80 s81 s82 s83 s84 s85 s86 s87 s88 s89 s90 s91 s92 s93 s94 s95 s96 s97 s98 s99 s100 s101 s102 s103 s104 s105 s106 s107 s108 s109 s110 s111 s112 s113 s114 s115 s116 s117 s118 s119 s120 s121 s122 s123 s124 : Value} {gd i cd j gl d0 d1 l0 l1 : Nat} {Ts : Tn} {V : World} {K_ : Act → World → Prop} 
    (HC0 : Hid (V.cell? ⟨gd, j * 2, none⟩ = some (.float .f64 d0))) (HC1 : Hid (V.cell? ⟨gd, j * 2 + 1, none⟩ = some (.float .f64 d1))) (HC2 : Hid (V.cell? ⟨gl, 0, none⟩ = some (.float .f64 l0))) (HC3 : Hid (V.cell? ⟨gl, 1, none⟩ = some (.float .f64 l1))) 
    (HW2 : Hid (IntKind.i64.wrap ((i : Int) - 1) = (j : Int)))
    (HX3 : Hid (j < i))
    (HF6 : Hid (∀ Xw, Below V.heap.size V Xw → Calls Try.prog 46 #[.agg #[.float .f64 d0, .float .f64 d1], .agg #[.float .f64 l0, .float .f64 l1]] Xw fun e w' => (∃ re6 im6 : Nat, e = .returned (.agg #[.float .f64 re6, .float .f64 im6]) ∧ tv re6 im6 = Ts) ∧ Below Xw.heap.size Xw w'))
    (hQ : ∀ (n7 : Nat)  (re6 im6 : Nat) (W1 : World), Below V.heap.size V W1 → vb W1 n7 33 [.float .f64 re6, .float .f64 im6] → V.heap.size ≤ n7 → tv re6 im6 = Ts → K_ { tmps := #[s0, s1, s2, s3, s4, s5, .slice (some ⟨gd, 0, none⟩) i cd, .int .i64 (i : Int), .pointer (some ⟨gl, 0, none⟩), .pointer (some ⟨n7, 0, none⟩), s10, s11, s12, s13, s14, s15, s16, s17, s18, s19, s20, s21, s22, s23, s24, s25, s26, s27, s28, s29, s30, s31, s32, s33, s34, s35, s36, s37, s38, s39, s40, s41, s42, s43, s44, s45, s46, .slice (some ⟨gd, 0, none⟩) i cd, .int .i64 (i : Int), .int .i64 (j : Int), .pointer (some ⟨gd, j * 2, none⟩), .agg #[.float .f64 d0, .float .f64 d1], .agg #[.float .f64 l0, .float .f64 l1], .agg #[.float .f64 re6, .float .f64 im6], s54, s55, s56, s57, s58, s59, s60, s61, s62, s63, s64, s65, s66, s67, s68, s69, s70, s71, s72, s73, s74, s75, s76, s77, s78, s79, s80, s81, s82, s83, s84, s85, s86, s87, s88, s89, s90, s91, s92, s93, s94, s95, s96, s97, s98, s99, s100, s101, s102, s103, s104, s105, s106, s107, s108, s109, s110, s111, s112, s113, s114, s115, s116, s117, s118, s119, s120, s121, s122, s123, s124], defers := [] } W1) :
    Go.Code.wp Try.prog (rg13 10) (Only K_) { tmps := #[s0, s1, s2, s3, s4, s5, .slice (some ⟨gd, 0, none⟩) i cd, .int .i64 (i : Int), .pointer (some ⟨gl, 0, none⟩), s9, s10, s11, s12, s13, s14, s15, s16, s17, s18, s19, s20, s21, s22, s23, s24, s25, s26, s27, s28, s29, s30, s31, s32, s33, s34, s35, s36, s37, s38, s39, s40, s41, s42, s43, s44, s45, s46, s47, s48, s49, s50, s51, s52, s53, s54, s55, s56, s57, s58, s59, s60, s61, s62, s63, s64, s65, s66, s67, s68, s69, s70, s71, s72, s73, s74, s75, s76, s77, s78, s79, s80, s81, s82, s83, s84, s85, s86, s87, s88, s89, s90, s91, s92, s93, s94, s95, s96, s97, s98, s99, s100, s101, s102, s103, s104, s105, s106, s107, s108, s109, s110, s111, s112, s113, s114, s115, s116, s117, s118, s119, s120, s121, s122, s123, s124], defers := [] } V := by
  have HQ := hide hQ
  clear hQ
  conv => arg 2; whnf
  refine wp_region_inv2 (fun Lb A W => ∃ (u0 u1 u2 u3 u4 u5 u6 u7 u8 : Bool) (n7 : Nat) (re6 : Nat) (im6 : Nat), Lb = #[u0, u1, u2, u3, u4, u5, u6, u7, u8] ∧ A = ({ tmps := #[s0, s1, s2, s3, s4, s5, .slice (some ⟨gd, 0, none⟩) i cd, .int .i64 (i : Int), .pointer (some ⟨gl, 0, none⟩), (bif u7 then .pointer (some ⟨n7, 0, none⟩) else s9), s10, s11, s12, s13, s14, s15, s16, s17, s18, s19, s20, s21, s22, s23, s24, s25, s26, s27, s28, s29, s30, s31, s32, s33, s34, s35, s36, s37, s38, s39, s40, s41, s42, s43, s44, s45, s46, (bif u0 then .slice (some ⟨gd, 0, none⟩) i cd else s47), (bif u1 then .int .i64 (i : Int) else s48), (bif u2 then .int .i64 (j : Int) else s49), (bif u3 then .pointer (some ⟨gd, j * 2, none⟩) else s50), (bif u4 then .agg #[.float .f64 d0, .float .f64 d1] else s51), (bif u5 then .agg #[.float .f64 l0, .float .f64 l1] else s52), (bif u6 then .agg #[.float .f64 re6, .float .f64 im6] else s53), s54, s55, s56, s57, s58, s59, s60, s61, s62, s63, s64, s65, s66, s67, s68, s69, s70, s71, s72, s73, s74, s75, s76, s77, s78, s79, s80, s81, s82, s83, s84, s85, s86, s87, s88, s89, s90, s91, s92, s93, s94, s95, s96, s97, s98, s99, s100, s101, s102, s103, s104, s105, s106, s107, s108, s109, s110, s111, s112, s113, s114, s115, s116, s117, s118, s119, s120, s121, s122, s123, s124], defers := [] } : Act) ∧ Below V.heap.size V W ∧ (u7 = true → vb W n7 33 (bif u8 then [.float .f64 re6, .float .f64 im6] else [.float .f64 0, .float .f64 0]) ∧ V.heap.size ≤ n7) ∧ (u6 = true → tv re6 im6 = Ts) ∧ (u8 = true → u0 = true ∧ u1 = true ∧ u2 = true ∧ u3 = true ∧ u4 = true ∧ u5 = true ∧ u6 = true ∧ u7 = true)) (by kernel_rfl) (by kernel_rfl) ?h0 ?hstep ?hend
  case h0 =>
    exact ⟨false, false, false, false, false, false, false, false, false, 0, 0, 0, rfl, rfl, Below.drew (Below.refl _ _), zf, zf, zf⟩
  case hstep =>
    intro Lb A W hI
    obtain ⟨u0, u1, u2, u3, u4, hI⟩ := hI
    obtain ⟨u5, u6, u7, u8, n7, hI⟩ := hI
    obtain ⟨re6, im6, hI⟩ := hI
    obtain ⟨hLb, hI⟩ := hI
    obtain ⟨hA, hI⟩ := hI
    obtain ⟨kB, hI⟩ := hI
    obtain ⟨k7, hI⟩ := hI
    obtain ⟨kx6, hI⟩ := hI
    have kF := hI
    clear hI
    subst hLb
    subst hA
    replace kB := hide kB
    replace k7 := hide k7
    replace kx6 := hide kx6
    replace kF := hide kF
    refine ⟨?_, ?_, ?_, ?_, ?_, ?_, ?_, ?_, ?_, trivial⟩
    · intro h0 hd K hK
      have z : u0 = false := h0
      have z8_ : u8 = false := znb fun hu => z.symm.trans ((zu kF hu).1)
      subst z8_
      subst z
      clear h0 hd
      rw [if_pos (by rfl)]
      go_simp
      exact unhide hK _ _ ⟨true, u1, u2, u3, u4, u5, u6, u7, false, n7, re6, im6, rfl, rfl, zu kB, zu k7, zu kx6, zf⟩
    · intro h0 hd K hK
      have z : u1 = false := h0
      have z8_ : u8 = false := znb fun hu => z.symm.trans ((zu kF hu).2.1)
      subst z8_
      subst z
      clear h0 hd
      rw [if_pos (by rfl)]
      go_simp
      exact unhide hK _ _ ⟨u0, true, u2, u3, u4, u5, u6, u7, false, n7, re6, im6, rfl, rfl, zu kB, zu k7, zu kx6, zf⟩
    · intro h0 hd K hK
      have z : u2 = false := h0
      have z8_ : u8 = false := znb fun hu => z.symm.trans ((zu kF hu).2.2.1)
      have zd : u1 = true := by
        simp [Region.binds] at hd
        simp [hd]
      obtain ⟨rfl⟩ := zd
      subst z8_
      subst z
      clear h0 hd
      rw [if_pos (by rfl)]
      have wq := unhide HW2
      go_simp
      exact unhide hK _ _ ⟨u0, true, true, u3, u4, u5, u6, u7, false, n7, re6, im6, rfl, rfl, zu kB, zu k7, zu kx6, zf⟩
    · intro h0 hd K hK
      have z : u3 = false := h0
      have z8_ : u8 = false := znb fun hu => z.symm.trans ((zu kF hu).2.2.2.1)
      have zd : u0 = true ∧ u2 = true := by
        simp [Region.binds] at hd
        simp [hd]
      obtain ⟨rfl, rfl⟩ := zd
      subst z8_
      subst z
      clear h0 hd
      rw [if_pos (by rfl)]
      have q1 : j < i := unhide HX3
      have q2 : (j : Int) < (i : Int) := by omega
      go_simp
      exact unhide hK _ _ ⟨true, u1, true, true, u4, u5, u6, u7, false, n7, re6, im6, rfl, rfl, zu kB, zu k7, zu kx6, zf⟩
    · intro h0 hd K hK
      have z : u4 = false := h0
      have z8_ : u8 = false := znb fun hu => z.symm.trans ((zu kF hu).2.2.2.2.1)
      have zd : u3 = true := by
        simp [Region.binds] at hd
        simp [hd]
      obtain ⟨rfl⟩ := zd
      subst z8_
      subst z
      clear h0 hd
      rw [if_pos (by rfl)]
      have c0 := keep1 (zu kB) (unhide HC0)
      have c1 := keep1 (zu kB) (unhide HC1)
      go_simp
      exact unhide hK _ _ ⟨u0, u1, u2, true, true, u5, u6, u7, false, n7, re6, im6, rfl, rfl, zu kB, zu k7, zu kx6, zf⟩
    · intro h0 hd K hK
      have z : u5 = false := h0
      have z8_ : u8 = false := znb fun hu => z.symm.trans ((zu kF hu).2.2.2.2.2.1)
      subst z8_
      subst z
      clear h0 hd
      rw [if_pos (by rfl)]
      have c0 := keep1 (zu kB) (unhide HC2)
      have c1 := keep1 (zu kB) (unhide HC3)
      go_simp
      exact unhide hK _ _ ⟨u0, u1, u2, u3, u4, true, u6, u7, false, n7, re6, im6, rfl, rfl, zu kB, zu k7, zu kx6, zf⟩
    · intro h0 hd K hK
      have z : u6 = false := h0
      have z8_ : u8 = false := znb fun hu => z.symm.trans ((zu kF hu).2.2.2.2.2.2.1)
      have zd : u4 = true ∧ u5 = true := by
        simp [Region.binds] at hd
        simp [hd]
      obtain ⟨rfl, rfl⟩ := zd
      subst z8_
      subst z
      clear h0 hd
      rw [if_pos (by rfl)]
      go_simp
      refine (unhide HF6 W (zu kB)).mono ?_
      rintro e w8 ⟨⟨re6_, im6_, rfl, hr_⟩, hb8⟩
      exact unhide hK _ _ ⟨u0, u1, u2, u3, true, true, true, u7, false, n7, re6_, im6_, rfl, rfl, bc (zu kB) hb8, (fun h => ⟨(zu k7 h).1.bel hb8, (zu k7 h).2⟩), (fun _ => hr_), zf⟩
    · intro h0 hd K hK
      have z : u7 = false := h0
      have z8_ : u8 = false := znb fun hu => z.symm.trans ((zu kF hu).2.2.2.2.2.2.2)
      subst z8_
      subst z
      clear h0 hd
      rw [if_pos (by rfl)]
      go_simp
      exact unhide hK _ _ ⟨u0, u1, u2, u3, u4, u5, u6, true, false, W.heap.size, re6, im6, rfl, rfl, ba (zu kB) _, (fun _ => ⟨vb_new W 33 _ _ rfl, (zu kB).size⟩), zu kx6, zf⟩
    · intro h0 hd K hK
      have z : u8 = false := h0
      have zd0 : u0 = true ∧ u1 = true ∧ u2 = true ∧ u3 = true ∧ u4 = true ∧ u5 = true ∧ u6 = true ∧ u7 = true := by
        simp [Region.binds] at hd
        simp [hd]
      have zd : u0 = true ∧ u1 = true ∧ u2 = true ∧ u3 = true ∧ u4 = true ∧ u5 = true ∧ u6 = true ∧ u7 = true := ⟨zd0.1, zd0.2.1, zd0.2.2.1, zd0.2.2.2.1, zd0.2.2.2.2.1, zd0.2.2.2.2.2.1, zd0.2.2.2.2.2.2.1, zd0.2.2.2.2.2.2.2⟩
      obtain ⟨rfl, rfl, rfl, rfl, rfl, rfl, rfl, rfl⟩ := zd
      subst z
      clear h0 hd
      rw [if_pos (by rfl)]
      have v1 := (zu k7 rfl).1
      have g9 := (zu k7 rfl).2
      have fz := v1.frozen
      have q0 := v1.cell (m := 0) rfl
      have q1 := v1.cell (m := 1) rfl
      have HV1 := hide v1
      clear v1
      go_simp
      exact unhide hK _ _ ⟨true, true, true, true, true, true, true, true, true, n7, re6, im6, rfl, rfl, (((((zu kB)).setCell (p := ⟨n7, 0, none⟩) g9 _)).setCell (p := ⟨n7, 1, none⟩) g9 _), (fun _ => ⟨(((unhide HV1).set 0 _).set 1 _), g9⟩), zu kx6, (fun _ => ⟨rfl, rfl, rfl, rfl, rfl, rfl, rfl, rfl⟩)⟩
  case hend =>
    intro Lb A W hI
    obtain ⟨u0, u1, u2, u3, u4, hI⟩ := hI
    obtain ⟨u5, u6, u7, u8, n7, hI⟩ := hI
    obtain ⟨re6, im6, hI⟩ := hI
    obtain ⟨hLb, hI⟩ := hI
    obtain ⟨hA, hI⟩ := hI
    obtain ⟨kB, hI⟩ := hI
    obtain ⟨k7, hI⟩ := hI
    obtain ⟨kx6, hI⟩ := hI
    have kF := hI
    clear hI
    subst hLb
    subst hA
    intro hL
    have hl : u0 = true ∧ u1 = true ∧ u2 = true ∧ u3 = true ∧ u4 = true ∧ u5 = true ∧ u6 = true ∧ u7 = true ∧ u8 = true := by
      have h2 := congrArg Array.toList hL
      simpa [List.replicate] using h2
    obtain ⟨rfl, rfl, rfl, rfl, rfl, rfl, rfl, rfl, rfl⟩ := hl
    exact unhide HQ n7 re6 im6 W kB (k7 rfl).1 (k7 rfl).2 (kx6 rfl)

set_option maxHeartbeats 4000000 in
set_option maxRecDepth 100000 in
theorem sw11 {s2 s3 s4 s5 s10 s11 s12 s13 s14 s15 s16 s17 s18 s19 s20 s21 s22 s23 s24 s25 s26 s27 s28 s29 s30 s31 s32 s33 s34 s35 s36 s37 s38 s39 s40 s41 s42 s43 s44 s45 s46 s47 s48 s49 s50 s51 s52 s53 s54 s55 s56 s57 s58 s59 s60 s61 s62 s63 s64 s65 s66 s67 s68 s69 s70 s71 s72 s73 s74 s75 s76 s77 s78 s79 s80 s81 s82 s83 s84 s85 s86 s87 s88 s89 s90 s91 s92 s93 s94 s95 s96 s97 s98 s99 s100 s101 s102 s103 s104 s105 s106 s107 s108 s109 s110 s111 s112 s113 s114 s115 s116 s117 s118 s119 s120 s121 s122 s123 s124 : Value} {p po n c wb x0 x1 x2 gd i cd j gl gb d0 d1 l0 l1 b0 b1 B : Nat} {Lr : List Nat} {To Tm Ty_ Tz : Tn} {V : World} {K_ : Act → World → Prop} (HR : Hid (FRow .f64 V B 33 2 (.slice (some ⟨gd, 0, none⟩) i cd) i Lr)) (hBV : B ≤ V.heap.size) (hki : i ≤ 100000)
    (HC0 : Hid (V.cell? ⟨p, po + i * 3, none⟩ = some (.float .f64 x0))) (HC1 : Hid (V.cell? ⟨p, po + i * 3 + 1, none⟩ = some (.float .f64 x1))) (HC2 : Hid (V.cell? ⟨p, po + i * 3 + 2, none⟩ = some (.float .f64 x2))) (HD0 : Hid (V.cell? ⟨gd, j * 2, none⟩ = some (.float .f64 d0))) (HD1 : Hid (V.cell? ⟨gd, j * 2 + 1, none⟩ = some (.float .f64 d1))) (HL0 : Hid (V.cell? ⟨gl, 0, none⟩ = some (.float .f64 l0))) (HL1 : Hid (V.cell? ⟨gl, 1, none⟩ = some (.float .f64 l1))) (HB0 : Hid (V.cell? ⟨gb, 0, none⟩ = some (.float .f64 b0))) (HB1 : Hid (V.cell? ⟨gb, 1, none⟩ = some (.float .f64 b1))) 
    (HX3 : Hid (i < n))
    (HF6 : Hid (∀ Xw, Below V.heap.size V Xw → Calls Try.prog 47 #[.agg #[.float .f64 x0, .float .f64 x1, .float .f64 x2], .float .f64 wb] Xw fun e w' => (∃ re6 im6 : Nat, e = .returned (.agg #[.float .f64 re6, .float .f64 im6]) ∧ tv re6 im6 = To) ∧ Below Xw.heap.size Xw w'))
    (HW10 : Hid (IntKind.i64.wrap ((i : Int) - 1) = (j : Int)))
    (HX11 : Hid (j < i))
    (HF13 : Hid (∀ Xw, Below V.heap.size V Xw → Calls Try.prog 50 #[.agg #[.float .f64 l0, .float .f64 l1], .agg #[.float .f64 d0, .float .f64 d1]] Xw fun e w' => (∃ rem imm : Nat, e = .returned (.agg #[.float .f64 rem, .float .f64 imm]) ∧ tv rem imm = Tm) ∧ Below Xw.heap.size Xw w'))
    (HF15 : Hid (∀ rem imm : Nat, tv rem imm = Tm → ∀ Xw, Below V.heap.size V Xw → Calls Try.prog 49 #[.agg #[.float .f64 rem, .float .f64 imm], .agg #[.float .f64 b0, .float .f64 b1]] Xw fun e w' => (∃ rey imy : Nat, e = .returned (.agg #[.float .f64 rey, .float .f64 imy]) ∧ tv rey imy = Ty_) ∧ Below Xw.heap.size Xw w'))
    (HF16 : Hid (∀ re6 im6 : Nat, tv re6 im6 = To → ∀ rey imy : Nat, tv rey imy = Ty_ → ∀ Xw, Below V.heap.size V Xw → Calls Try.prog 46 #[.agg #[.float .f64 re6, .float .f64 im6], .agg #[.float .f64 rey, .float .f64 imy]] Xw fun e w' => (∃ rez imz : Nat, e = .returned (.agg #[.float .f64 rez, .float .f64 imz]) ∧ tv rez imz = Tz) ∧ Below Xw.heap.size Xw w'))
    (hQ : ∀ (n17 : Nat)  (re6 im6 : Nat) (rem imm : Nat) (rey imy : Nat) (rez imz : Nat) (rr : Value) (W1 W9 : World), Below V.heap.size V W1 → tv re6 im6 = To → tv rem imm = Tm → tv rey imy = Ty_ → tv rez imz = Tz → FRow .f64 W9 B 33 2 rr (i + 1) (Lr ++ [rez, imz]) → W1.grownBy W9 (Value.slice (some ⟨gd, 0, none⟩) i cd).ownBlock → K_ { tmps := #[.slice (some ⟨p, po, none⟩) n c, .float .f64 wb, s2, s3, s4, s5, rr, .int .i64 (i : Int), .pointer (some ⟨gl, 0, none⟩), .pointer (some ⟨gb, 0, none⟩), s10, s11, s12, s13, s14, s15, s16, s17, s18, s19, s20, s21, s22, s23, s24, s25, s26, s27, s28, s29, s30, s31, s32, s33, s34, s35, s36, s37, s38, s39, s40, s41, s42, s43, s44, s45, s46, s47, s48, s49, s50, s51, s52, s53, .slice (some ⟨gd, 0, none⟩) i cd, .slice (some ⟨p, po, none⟩) n c, .int .i64 (i : Int), .pointer (some ⟨p, po + i * 3, none⟩), .agg #[.float .f64 x0, .float .f64 x1, .float .f64 x2], .float .f64 wb, .agg #[.float .f64 re6, .float .f64 im6], .agg #[.float .f64 l0, .float .f64 l1], .slice (some ⟨gd, 0, none⟩) i cd, .int .i64 (i : Int), .int .i64 (j : Int), .pointer (some ⟨gd, j * 2, none⟩), .agg #[.float .f64 d0, .float .f64 d1], .agg #[.float .f64 rem, .float .f64 imm], .agg #[.float .f64 b0, .float .f64 b1], .agg #[.float .f64 rey, .float .f64 imy], .agg #[.float .f64 rez, .float .f64 imz], .slice (some ⟨n17, 0, none⟩) 1 1, rr, s73, s74, s75, s76, s77, s78, s79, s80, s81, s82, s83, s84, s85, s86, s87, s88, s89, s90, s91, s92, s93, s94, s95, s96, s97, s98, s99, s100, s101, s102, s103, s104, s105, s106, s107, s108, s109, s110, s111, s112, s113, s114, s115, s116, s117, s118, s119, s120, s121, s122, s123, s124], defers := [] } W9) :
    Go.Code.wp Try.prog (rg13 11) (Only K_) { tmps := #[.slice (some ⟨p, po, none⟩) n c, .float .f64 wb, s2, s3, s4, s5, .slice (some ⟨gd, 0, none⟩) i cd, .int .i64 (i : Int), .pointer (some ⟨gl, 0, none⟩), .pointer (some ⟨gb, 0, none⟩), s10, s11, s12, s13, s14, s15, s16, s17, s18, s19, s20, s21, s22, s23, s24, s25, s26, s27, s28, s29, s30, s31, s32, s33, s34, s35, s36, s37, s38, s39, s40, s41, s42, s43, s44, s45, s46, s47, s48, s49, s50, s51, s52, s53, s54, s55, s56, s57, s58, s59, s60, s61, s62, s63, s64, s65, s66, s67, s68, s69, s70, s71, s72, s73, s74, s75, s76, s77, s78, s79, s80, s81, s82, s83, s84, s85, s86, s87, s88, s89, s90, s91, s92, s93, s94, s95, s96, s97, s98, s99, s100, s101, s102, s103, s104, s105, s106, s107, s108, s109, s110, s111, s112, s113, s114, s115, s116, s117, s118, s119, s120, s121, s122, s123, s124], defers := [] } V := by
  have HQ := hide hQ
  clear hQ
  obtain ⟨iP, hi1, hy0, hy1, hy2⟩ := info_parts tone_info
  conv => arg 2; whnf
  refine wp_region_inv2 (fun Lb A W => ∃ (u0 u1 u2 u3 u4 u5 u6 u7 u8 u9 u10 u11 u12 u13 u14 u15 u16 u17 u18 u19 : Bool) (n17 : Nat) (re6 : Nat) (im6 : Nat) (rem : Nat) (imm : Nat) (rey : Nat) (imy : Nat) (rez : Nat) (imz : Nat) (rr : Value), Lb = #[u0, u1, u2, u3, u4, u5, u6, u7, u8, u9, u10, u11, u12, u13, u14, u15, u16, u17, u18, u19] ∧ A = ({ tmps := #[.slice (some ⟨p, po, none⟩) n c, .float .f64 wb, s2, s3, s4, s5, (bif u19 then rr else .slice (some ⟨gd, 0, none⟩) i cd), .int .i64 (i : Int), .pointer (some ⟨gl, 0, none⟩), .pointer (some ⟨gb, 0, none⟩), s10, s11, s12, s13, s14, s15, s16, s17, s18, s19, s20, s21, s22, s23, s24, s25, s26, s27, s28, s29, s30, s31, s32, s33, s34, s35, s36, s37, s38, s39, s40, s41, s42, s43, s44, s45, s46, s47, s48, s49, s50, s51, s52, s53, (bif u0 then .slice (some ⟨gd, 0, none⟩) i cd else s54), (bif u1 then .slice (some ⟨p, po, none⟩) n c else s55), (bif u2 then .int .i64 (i : Int) else s56), (bif u3 then .pointer (some ⟨p, po + i * 3, none⟩) else s57), (bif u4 then .agg #[.float .f64 x0, .float .f64 x1, .float .f64 x2] else s58), (bif u5 then .float .f64 wb else s59), (bif u6 then .agg #[.float .f64 re6, .float .f64 im6] else s60), (bif u7 then .agg #[.float .f64 l0, .float .f64 l1] else s61), (bif u8 then .slice (some ⟨gd, 0, none⟩) i cd else s62), (bif u9 then .int .i64 (i : Int) else s63), (bif u10 then .int .i64 (j : Int) else s64), (bif u11 then .pointer (some ⟨gd, j * 2, none⟩) else s65), (bif u12 then .agg #[.float .f64 d0, .float .f64 d1] else s66), (bif u13 then .agg #[.float .f64 rem, .float .f64 imm] else s67), (bif u14 then .agg #[.float .f64 b0, .float .f64 b1] else s68), (bif u15 then .agg #[.float .f64 rey, .float .f64 imy] else s69), (bif u16 then .agg #[.float .f64 rez, .float .f64 imz] else s70), (bif u17 then .slice (some ⟨n17, 0, none⟩) 1 1 else s71), (bif u18 then rr else s72), s73, s74, s75, s76, s77, s78, s79, s80, s81, s82, s83, s84, s85, s86, s87, s88, s89, s90, s91, s92, s93, s94, s95, s96, s97, s98, s99, s100, s101, s102, s103, s104, s105, s106, s107, s108, s109, s110, s111, s112, s113, s114, s115, s116, s117, s118, s119, s120, s121, s122, s123, s124], defers := [] } : Act) ∧ (u18 = false → Below V.heap.size V W) ∧ (u17 = true → u18 = false → vb W n17 33 [.float .f64 rez, .float .f64 imz] ∧ V.heap.size ≤ n17) ∧ (u6 = true → tv re6 im6 = To) ∧ (u13 = true → tv rem imm = Tm) ∧ (u15 = true → tv rey imy = Ty_) ∧ (u16 = true → tv rez imz = Tz) ∧ (u18 = true → ∃ W1, Below V.heap.size V W1 ∧ FRow .f64 W B 33 2 rr (i + 1) (Lr ++ [rez, imz]) ∧ W1.grownBy W (Value.slice (some ⟨gd, 0, none⟩) i cd).ownBlock) ∧ (u3 = true → u1 = true ∧ u2 = true) ∧ (u4 = true → u3 = true) ∧ (u6 = true → u4 = true ∧ u5 = true) ∧ (u10 = true → u9 = true) ∧ (u11 = true → u8 = true ∧ u10 = true) ∧ (u12 = true → u11 = true) ∧ (u13 = true → u7 = true ∧ u12 = true ∧ u6 = true) ∧ (u15 = true → u13 = true ∧ u14 = true) ∧ (u16 = true → u6 = true ∧ u15 = true) ∧ (u17 = true → u16 = true) ∧ (u18 = true → u0 = true ∧ u17 = true) ∧ (u19 = true → u0 = true ∧ u1 = true ∧ u2 = true ∧ u3 = true ∧ u4 = true ∧ u5 = true ∧ u6 = true ∧ u7 = true ∧ u8 = true ∧ u9 = true ∧ u10 = true ∧ u11 = true ∧ u12 = true ∧ u13 = true ∧ u14 = true ∧ u15 = true ∧ u16 = true ∧ u17 = true ∧ u18 = true)) (by kernel_rfl) (by kernel_rfl) ?h0 ?hstep ?hend
  case h0 =>
    exact ⟨false, false, false, false, false, false, false, false, false, false, false, false, false, false, false, false, false, false, false, false, 0, 0, 0, 0, 0, 0, 0, 0, 0, undef, rfl, rfl, (fun _ => Below.drew (Below.refl _ _)), zf, zf, zf, zf, zf, zf, zf, zf, zf, zf, zf, zf, zf, zf, zf, zf, zf, zf⟩
  case hstep =>
    intro Lb A W hI
    obtain ⟨u0, u1, u2, u3, u4, hI⟩ := hI
    obtain ⟨u5, u6, u7, u8, u9, hI⟩ := hI
    obtain ⟨u10, u11, u12, u13, u14, hI⟩ := hI
    obtain ⟨u15, u16, u17, u18, u19, hI⟩ := hI
    obtain ⟨n17, re6, im6, rem, imm, hI⟩ := hI
    obtain ⟨rey, imy, rez, imz, rr, hI⟩ := hI
    obtain ⟨hLb, hI⟩ := hI
    obtain ⟨hA, hI⟩ := hI
    obtain ⟨kB, hI⟩ := hI
    obtain ⟨k17, hI⟩ := hI
    obtain ⟨kx6, hI⟩ := hI
    obtain ⟨kx13, hI⟩ := hI
    obtain ⟨kx15, hI⟩ := hI
    obtain ⟨kx16, hI⟩ := hI
    obtain ⟨kZ, hI⟩ := hI
    obtain ⟨l3, hI⟩ := hI
    obtain ⟨l4, hI⟩ := hI
    obtain ⟨l6, hI⟩ := hI
    obtain ⟨l10, hI⟩ := hI
    obtain ⟨l11, hI⟩ := hI
    obtain ⟨l12, hI⟩ := hI
    obtain ⟨l13, hI⟩ := hI
    obtain ⟨l15, hI⟩ := hI
    obtain ⟨l16, hI⟩ := hI
    obtain ⟨l17, hI⟩ := hI
    obtain ⟨l18, hI⟩ := hI
    have kF := hI
    clear hI
    subst hLb
    subst hA
    replace kB := hide kB
    replace k17 := hide k17
    replace kx6 := hide kx6
    replace kx13 := hide kx13
    replace kx15 := hide kx15
    replace kx16 := hide kx16
    replace kZ := hide kZ
    replace l3 := hide l3
    replace l4 := hide l4
    replace l6 := hide l6
    replace l10 := hide l10
    replace l11 := hide l11
    replace l12 := hide l12
    replace l13 := hide l13
    replace l15 := hide l15
    replace l16 := hide l16
    replace l17 := hide l17
    replace l18 := hide l18
    replace kF := hide kF
    refine ⟨?_, ?_, ?_, ?_, ?_, ?_, ?_, ?_, ?_, ?_, ?_, ?_, ?_, ?_, ?_, ?_, ?_, ?_, ?_, ?_, trivial⟩
    · intro h0 hd K hK
      have z : u0 = false := h0
      have z19_ : u19 = false := znb fun hu => z.symm.trans ((zu kF hu).1)
      have z18_ : u18 = false := znb fun hu => z.symm.trans ((zu l18 hu).1)
      subst z19_
      subst z18_
      subst z
      clear h0 hd
      rw [if_pos (by rfl)]
      go_simp
      exact unhide hK _ _ ⟨true, u1, u2, u3, u4, u5, u6, u7, u8, u9, u10, u11, u12, u13, u14, u15, u16, u17, false, false, n17, re6, im6, rem, imm, rey, imy, rez, imz, rr, rfl, rfl, zu kB, zu k17, zu kx6, zu kx13, zu kx15, zu kx16, zf, zu l3, zu l4, zu l6, zu l10, zu l11, zu l12, zu l13, zu l15, zu l16, zu l17, zf, zf⟩
    · intro h0 hd K hK
      have z : u1 = false := h0
      have z19_ : u19 = false := znb fun hu => z.symm.trans ((zu kF hu).2.1)
      have z18_ : u18 = false := znb fun hu => z.symm.trans ((zu l3 (zu l4 (zu l6 (zu l16 (zu l17 (zu l18 hu).2)).1).1)).1)
      subst z19_
      subst z18_
      subst z
      clear h0 hd
      rw [if_pos (by rfl)]
      go_simp
      exact unhide hK _ _ ⟨u0, true, u2, u3, u4, u5, u6, u7, u8, u9, u10, u11, u12, u13, u14, u15, u16, u17, false, false, n17, re6, im6, rem, imm, rey, imy, rez, imz, rr, rfl, rfl, zu kB, zu k17, zu kx6, zu kx13, zu kx15, zu kx16, zf, (fun h => ⟨rfl, (zu l3 h).2⟩), zu l4, zu l6, zu l10, zu l11, zu l12, zu l13, zu l15, zu l16, zu l17, zf, zf⟩
    · intro h0 hd K hK
      have z : u2 = false := h0
      have z19_ : u19 = false := znb fun hu => z.symm.trans ((zu kF hu).2.2.1)
      have z18_ : u18 = false := znb fun hu => z.symm.trans ((zu l3 (zu l4 (zu l6 (zu l16 (zu l17 (zu l18 hu).2)).1).1)).2)
      subst z19_
      subst z18_
      subst z
      clear h0 hd
      rw [if_pos (by rfl)]
      go_simp
      exact unhide hK _ _ ⟨u0, u1, true, u3, u4, u5, u6, u7, u8, u9, u10, u11, u12, u13, u14, u15, u16, u17, false, false, n17, re6, im6, rem, imm, rey, imy, rez, imz, rr, rfl, rfl, zu kB, zu k17, zu kx6, zu kx13, zu kx15, zu kx16, zf, (fun h => ⟨(zu l3 h).1, rfl⟩), zu l4, zu l6, zu l10, zu l11, zu l12, zu l13, zu l15, zu l16, zu l17, zf, zf⟩
    · intro h0 hd K hK
      have z : u3 = false := h0
      have z19_ : u19 = false := znb fun hu => z.symm.trans ((zu kF hu).2.2.2.1)
      have z18_ : u18 = false := znb fun hu => z.symm.trans ((zu l4 (zu l6 (zu l16 (zu l17 (zu l18 hu).2)).1).1))
      have zd : u1 = true ∧ u2 = true := by
        simp [Region.binds] at hd
        simp [hd]
      obtain ⟨rfl, rfl⟩ := zd
      subst z19_
      subst z18_
      subst z
      clear h0 hd
      rw [if_pos (by rfl)]
      have q1 : i < n := unhide HX3
      have q2 : (i : Int) < (n : Int) := by omega
      go_simp
      exact unhide hK _ _ ⟨u0, true, true, true, u4, u5, u6, u7, u8, u9, u10, u11, u12, u13, u14, u15, u16, u17, false, false, n17, re6, im6, rem, imm, rey, imy, rez, imz, rr, rfl, rfl, zu kB, zu k17, zu kx6, zu kx13, zu kx15, zu kx16, zf, (fun _ => ⟨rfl, rfl⟩), (fun h => rfl), zu l6, zu l10, zu l11, zu l12, zu l13, zu l15, zu l16, zu l17, zf, zf⟩
    · intro h0 hd K hK
      have z : u4 = false := h0
      have z19_ : u19 = false := znb fun hu => z.symm.trans ((zu kF hu).2.2.2.2.1)
      have z18_ : u18 = false := znb fun hu => z.symm.trans ((zu l6 (zu l16 (zu l17 (zu l18 hu).2)).1).1)
      have zd : u3 = true := by
        simp [Region.binds] at hd
        simp [hd]
      obtain ⟨rfl⟩ := zd
      subst z19_
      subst z18_
      subst z
      clear h0 hd
      rw [if_pos (by rfl)]
      have c0 := keep1 (zu kB rfl) (unhide HC0)
      have c1 := keep1 (zu kB rfl) (unhide HC1)
      have c2 := keep1 (zu kB rfl) (unhide HC2)
      go_simp
      exact unhide hK _ _ ⟨u0, u1, u2, true, true, u5, u6, u7, u8, u9, u10, u11, u12, u13, u14, u15, u16, u17, false, false, n17, re6, im6, rem, imm, rey, imy, rez, imz, rr, rfl, rfl, zu kB, zu k17, zu kx6, zu kx13, zu kx15, zu kx16, zf, zu l3, (fun _ => rfl), (fun h => ⟨rfl, (zu l6 h).2⟩), zu l10, zu l11, zu l12, zu l13, zu l15, zu l16, zu l17, zf, zf⟩
    · intro h0 hd K hK
      have z : u5 = false := h0
      have z19_ : u19 = false := znb fun hu => z.symm.trans ((zu kF hu).2.2.2.2.2.1)
      have z18_ : u18 = false := znb fun hu => z.symm.trans ((zu l6 (zu l16 (zu l17 (zu l18 hu).2)).1).2)
      subst z19_
      subst z18_
      subst z
      clear h0 hd
      rw [if_pos (by rfl)]
      go_simp
      exact unhide hK _ _ ⟨u0, u1, u2, u3, u4, true, u6, u7, u8, u9, u10, u11, u12, u13, u14, u15, u16, u17, false, false, n17, re6, im6, rem, imm, rey, imy, rez, imz, rr, rfl, rfl, zu kB, zu k17, zu kx6, zu kx13, zu kx15, zu kx16, zf, zu l3, zu l4, (fun h => ⟨(zu l6 h).1, rfl⟩), zu l10, zu l11, zu l12, zu l13, zu l15, zu l16, zu l17, zf, zf⟩
    · intro h0 hd K hK
      have z : u6 = false := h0
      have z19_ : u19 = false := znb fun hu => z.symm.trans ((zu kF hu).2.2.2.2.2.2.1)
      have z18_ : u18 = false := znb fun hu => z.symm.trans ((zu l16 (zu l17 (zu l18 hu).2)).1)
      have zd : u4 = true ∧ u5 = true := by
        simp [Region.binds] at hd
        simp [hd]
      obtain ⟨rfl, rfl⟩ := zd
      subst z19_
      subst z18_
      subst z
      clear h0 hd
      rw [if_pos (by rfl)]
      go_simp
      refine (unhide HF6 W (zu kB rfl)).mono ?_
      rintro e w8 ⟨⟨re6_, im6_, rfl, hr_⟩, hb8⟩
      exact unhide hK _ _ ⟨u0, u1, u2, u3, true, true, true, u7, u8, u9, u10, u11, u12, u13, u14, u15, u16, u17, false, false, n17, re6_, im6_, rem, imm, rey, imy, rez, imz, rr, rfl, rfl, (fun _ => bc (zu kB rfl) hb8), (fun h h2 => ⟨(zu k17 h h2).1.bel hb8, (zu k17 h h2).2⟩), (fun _ => hr_), zu kx13, zu kx15, zu kx16, zf, zu l3, zu l4, (fun _ => ⟨rfl, rfl⟩), zu l10, zu l11, zu l12, (fun h => ⟨(zu l13 h).1, (zu l13 h).2.1, rfl⟩), zu l15, (fun h => ⟨rfl, (zu l16 h).2⟩), zu l17, zf, zf⟩
    · intro h0 hd K hK
      have z : u7 = false := h0
      have z19_ : u19 = false := znb fun hu => z.symm.trans ((zu kF hu).2.2.2.2.2.2.2.1)
      have z18_ : u18 = false := znb fun hu => z.symm.trans ((zu l13 (zu l15 (zu l16 (zu l17 (zu l18 hu).2)).2).1).1)
      subst z19_
      subst z18_
      subst z
      clear h0 hd
      rw [if_pos (by rfl)]
      have c0 := keep1 (zu kB rfl) (unhide HL0)
      have c1 := keep1 (zu kB rfl) (unhide HL1)
      go_simp
      exact unhide hK _ _ ⟨u0, u1, u2, u3, u4, u5, u6, true, u8, u9, u10, u11, u12, u13, u14, u15, u16, u17, false, false, n17, re6, im6, rem, imm, rey, imy, rez, imz, rr, rfl, rfl, zu kB, zu k17, zu kx6, zu kx13, zu kx15, zu kx16, zf, zu l3, zu l4, zu l6, zu l10, zu l11, zu l12, (fun h => ⟨rfl, (zu l13 h).2.1, (zu l13 h).2.2⟩), zu l15, zu l16, zu l17, zf, zf⟩
    · intro h0 hd K hK
      have z : u8 = false := h0
      have z19_ : u19 = false := znb fun hu => z.symm.trans ((zu kF hu).2.2.2.2.2.2.2.2.1)
      have z18_ : u18 = false := znb fun hu => z.symm.trans ((zu l11 (zu l12 (zu l13 (zu l15 (zu l16 (zu l17 (zu l18 hu).2)).2).1).2.1)).1)
      subst z19_
      subst z18_
      subst z
      clear h0 hd
      rw [if_pos (by rfl)]
      go_simp
      exact unhide hK _ _ ⟨u0, u1, u2, u3, u4, u5, u6, u7, true, u9, u10, u11, u12, u13, u14, u15, u16, u17, false, false, n17, re6, im6, rem, imm, rey, imy, rez, imz, rr, rfl, rfl, zu kB, zu k17, zu kx6, zu kx13, zu kx15, zu kx16, zf, zu l3, zu l4, zu l6, zu l10, (fun h => ⟨rfl, (zu l11 h).2⟩), zu l12, zu l13, zu l15, zu l16, zu l17, zf, zf⟩
    · intro h0 hd K hK
      have z : u9 = false := h0
      have z19_ : u19 = false := znb fun hu => z.symm.trans ((zu kF hu).2.2.2.2.2.2.2.2.2.1)
      have z18_ : u18 = false := znb fun hu => z.symm.trans ((zu l10 (zu l11 (zu l12 (zu l13 (zu l15 (zu l16 (zu l17 (zu l18 hu).2)).2).1).2.1)).2))
      subst z19_
      subst z18_
      subst z
      clear h0 hd
      rw [if_pos (by rfl)]
      go_simp
      exact unhide hK _ _ ⟨u0, u1, u2, u3, u4, u5, u6, u7, u8, true, u10, u11, u12, u13, u14, u15, u16, u17, false, false, n17, re6, im6, rem, imm, rey, imy, rez, imz, rr, rfl, rfl, zu kB, zu k17, zu kx6, zu kx13, zu kx15, zu kx16, zf, zu l3, zu l4, zu l6, (fun h => rfl), zu l11, zu l12, zu l13, zu l15, zu l16, zu l17, zf, zf⟩
    · intro h0 hd K hK
      have z : u10 = false := h0
      have z19_ : u19 = false := znb fun hu => z.symm.trans ((zu kF hu).2.2.2.2.2.2.2.2.2.2.1)
      have z18_ : u18 = false := znb fun hu => z.symm.trans ((zu l11 (zu l12 (zu l13 (zu l15 (zu l16 (zu l17 (zu l18 hu).2)).2).1).2.1)).2)
      have zd : u9 = true := by
        simp [Region.binds] at hd
        simp [hd]
      obtain ⟨rfl⟩ := zd
      subst z19_
      subst z18_
      subst z
      clear h0 hd
      rw [if_pos (by rfl)]
      have wq := unhide HW10
      go_simp
      exact unhide hK _ _ ⟨u0, u1, u2, u3, u4, u5, u6, u7, u8, true, true, u11, u12, u13, u14, u15, u16, u17, false, false, n17, re6, im6, rem, imm, rey, imy, rez, imz, rr, rfl, rfl, zu kB, zu k17, zu kx6, zu kx13, zu kx15, zu kx16, zf, zu l3, zu l4, zu l6, (fun _ => rfl), (fun h => ⟨(zu l11 h).1, rfl⟩), zu l12, zu l13, zu l15, zu l16, zu l17, zf, zf⟩
    · intro h0 hd K hK
      have z : u11 = false := h0
      have z19_ : u19 = false := znb fun hu => z.symm.trans ((zu kF hu).2.2.2.2.2.2.2.2.2.2.2.1)
      have z18_ : u18 = false := znb fun hu => z.symm.trans ((zu l12 (zu l13 (zu l15 (zu l16 (zu l17 (zu l18 hu).2)).2).1).2.1))
      have zd : u8 = true ∧ u10 = true := by
        simp [Region.binds] at hd
        simp [hd]
      obtain ⟨rfl, rfl⟩ := zd
      subst z19_
      subst z18_
      subst z
      clear h0 hd
      rw [if_pos (by rfl)]
      have q1 : j < i := unhide HX11
      have q2 : (j : Int) < (i : Int) := by omega
      go_simp
      exact unhide hK _ _ ⟨u0, u1, u2, u3, u4, u5, u6, u7, true, u9, true, true, u12, u13, u14, u15, u16, u17, false, false, n17, re6, im6, rem, imm, rey, imy, rez, imz, rr, rfl, rfl, zu kB, zu k17, zu kx6, zu kx13, zu kx15, zu kx16, zf, zu l3, zu l4, zu l6, zu l10, (fun _ => ⟨rfl, rfl⟩), (fun h => rfl), zu l13, zu l15, zu l16, zu l17, zf, zf⟩
    · intro h0 hd K hK
      have z : u12 = false := h0
      have z19_ : u19 = false := znb fun hu => z.symm.trans ((zu kF hu).2.2.2.2.2.2.2.2.2.2.2.2.1)
      have z18_ : u18 = false := znb fun hu => z.symm.trans ((zu l13 (zu l15 (zu l16 (zu l17 (zu l18 hu).2)).2).1).2.1)
      have zd : u11 = true := by
        simp [Region.binds] at hd
        simp [hd]
      obtain ⟨rfl⟩ := zd
      subst z19_
      subst z18_
      subst z
      clear h0 hd
      rw [if_pos (by rfl)]
      have c0 := keep1 (zu kB rfl) (unhide HD0)
      have c1 := keep1 (zu kB rfl) (unhide HD1)
      go_simp
      exact unhide hK _ _ ⟨u0, u1, u2, u3, u4, u5, u6, u7, u8, u9, u10, true, true, u13, u14, u15, u16, u17, false, false, n17, re6, im6, rem, imm, rey, imy, rez, imz, rr, rfl, rfl, zu kB, zu k17, zu kx6, zu kx13, zu kx15, zu kx16, zf, zu l3, zu l4, zu l6, zu l10, zu l11, (fun _ => rfl), (fun h => ⟨(zu l13 h).1, rfl, (zu l13 h).2.2⟩), zu l15, zu l16, zu l17, zf, zf⟩
    · intro h0 hd K hK
      have z : u13 = false := h0
      have z19_ : u19 = false := znb fun hu => z.symm.trans ((zu kF hu).2.2.2.2.2.2.2.2.2.2.2.2.2.1)
      have z18_ : u18 = false := znb fun hu => z.symm.trans ((zu l15 (zu l16 (zu l17 (zu l18 hu).2)).2).1)
      have zd : u7 = true ∧ u12 = true ∧ u6 = true := by
        simp [Region.binds] at hd
        simp [hd]
      obtain ⟨rfl, rfl, rfl⟩ := zd
      subst z19_
      subst z18_
      subst z
      clear h0 hd
      rw [if_pos (by rfl)]
      go_simp
      refine (unhide HF13 W (zu kB rfl)).mono ?_
      rintro e w8 ⟨⟨rem_, imm_, rfl, hr_⟩, hb8⟩
      exact unhide hK _ _ ⟨u0, u1, u2, u3, u4, u5, true, true, u8, u9, u10, u11, true, true, u14, u15, u16, u17, false, false, n17, re6, im6, rem_, imm_, rey, imy, rez, imz, rr, rfl, rfl, (fun _ => bc (zu kB rfl) hb8), (fun h h2 => ⟨(zu k17 h h2).1.bel hb8, (zu k17 h h2).2⟩), zu kx6, (fun _ => hr_), zu kx15, zu kx16, zf, zu l3, zu l4, zu l6, zu l10, zu l11, zu l12, (fun _ => ⟨rfl, rfl, rfl⟩), (fun h => ⟨rfl, (zu l15 h).2⟩), (fun h => ⟨rfl, (zu l16 h).2⟩), zu l17, zf, zf⟩
    · intro h0 hd K hK
      have z : u14 = false := h0
      have z19_ : u19 = false := znb fun hu => z.symm.trans ((zu kF hu).2.2.2.2.2.2.2.2.2.2.2.2.2.2.1)
      have z18_ : u18 = false := znb fun hu => z.symm.trans ((zu l15 (zu l16 (zu l17 (zu l18 hu).2)).2).2)
      subst z19_
      subst z18_
      subst z
      clear h0 hd
      rw [if_pos (by rfl)]
      have c0 := keep1 (zu kB rfl) (unhide HB0)
      have c1 := keep1 (zu kB rfl) (unhide HB1)
      go_simp
      exact unhide hK _ _ ⟨u0, u1, u2, u3, u4, u5, u6, u7, u8, u9, u10, u11, u12, u13, true, u15, u16, u17, false, false, n17, re6, im6, rem, imm, rey, imy, rez, imz, rr, rfl, rfl, zu kB, zu k17, zu kx6, zu kx13, zu kx15, zu kx16, zf, zu l3, zu l4, zu l6, zu l10, zu l11, zu l12, zu l13, (fun h => ⟨(zu l15 h).1, rfl⟩), zu l16, zu l17, zf, zf⟩
    · intro h0 hd K hK
      have z : u15 = false := h0
      have z19_ : u19 = false := znb fun hu => z.symm.trans ((zu kF hu).2.2.2.2.2.2.2.2.2.2.2.2.2.2.2.1)
      have z18_ : u18 = false := znb fun hu => z.symm.trans ((zu l16 (zu l17 (zu l18 hu).2)).2)
      have zd : u13 = true ∧ u14 = true := by
        simp [Region.binds] at hd
        simp [hd]
      obtain ⟨rfl, rfl⟩ := zd
      subst z19_
      subst z18_
      subst z
      clear h0 hd
      rw [if_pos (by rfl)]
      go_simp
      refine (unhide HF15 _ _ (zu kx13 rfl) W (zu kB rfl)).mono ?_
      rintro e w8 ⟨⟨rey_, imy_, rfl, hr_⟩, hb8⟩
      exact unhide hK _ _ ⟨u0, u1, u2, u3, u4, u5, u6, u7, u8, u9, u10, u11, u12, true, true, true, u16, u17, false, false, n17, re6, im6, rem, imm, rey_, imy_, rez, imz, rr, rfl, rfl, (fun _ => bc (zu kB rfl) hb8), (fun h h2 => ⟨(zu k17 h h2).1.bel hb8, (zu k17 h h2).2⟩), zu kx6, zu kx13, (fun _ => hr_), zu kx16, zf, zu l3, zu l4, zu l6, zu l10, zu l11, zu l12, zu l13, (fun _ => ⟨rfl, rfl⟩), (fun h => ⟨(zu l16 h).1, rfl⟩), zu l17, zf, zf⟩
    · intro h0 hd K hK
      have z : u16 = false := h0
      have z19_ : u19 = false := znb fun hu => z.symm.trans ((zu kF hu).2.2.2.2.2.2.2.2.2.2.2.2.2.2.2.2.1)
      have z17_ : u17 = false := znb fun hu => z.symm.trans ((zu l17 hu))
      have z18_ : u18 = false := znb fun hu => z.symm.trans ((zu l17 (zu l18 hu).2))
      have zd : u6 = true ∧ u15 = true := by
        simp [Region.binds] at hd
        simp [hd]
      obtain ⟨rfl, rfl⟩ := zd
      subst z19_
      subst z17_
      subst z18_
      subst z
      clear h0 hd
      rw [if_pos (by rfl)]
      go_simp
      refine (unhide HF16 _ _ (zu kx6 rfl) _ _ (zu kx15 rfl) W (zu kB rfl)).mono ?_
      rintro e w8 ⟨⟨rez_, imz_, rfl, hr_⟩, hb8⟩
      exact unhide hK _ _ ⟨u0, u1, u2, u3, u4, u5, true, u7, u8, u9, u10, u11, u12, u13, u14, true, true, false, false, false, n17, re6, im6, rem, imm, rey, imy, rez_, imz_, rr, rfl, rfl, (fun _ => bc (zu kB rfl) hb8), zf, zu kx6, zu kx13, zu kx15, (fun _ => hr_), zf, zu l3, zu l4, zu l6, zu l10, zu l11, zu l12, (fun h => ⟨(zu l13 h).1, (zu l13 h).2.1, rfl⟩), zu l15, (fun _ => ⟨rfl, rfl⟩), zf, zf, zf⟩
    · intro h0 hd K hK
      have z : u17 = false := h0
      have z19_ : u19 = false := znb fun hu => z.symm.trans ((zu kF hu).2.2.2.2.2.2.2.2.2.2.2.2.2.2.2.2.2.1)
      have z18_ : u18 = false := znb fun hu => z.symm.trans ((zu l18 hu).2)
      have zd : u16 = true := by
        simp [Region.binds] at hd
        simp [hd]
      obtain ⟨rfl⟩ := zd
      subst z19_
      subst z18_
      subst z
      clear h0 hd
      rw [if_pos (by rfl)]
      go_simp
      exact unhide hK _ _ ⟨u0, u1, u2, u3, u4, u5, u6, u7, u8, u9, u10, u11, u12, u13, u14, u15, true, true, false, false, W.heap.size, re6, im6, rem, imm, rey, imy, rez, imz, rr, rfl, rfl, (fun _ => ba (zu kB rfl) _), (fun _ _ => ⟨vb_new W 33 _ _ rfl, (zu kB rfl).size⟩), zu kx6, zu kx13, zu kx15, zu kx16, zf, zu l3, zu l4, zu l6, zu l10, zu l11, zu l12, zu l13, zu l15, zu l16, (fun _ => rfl), zf, zf⟩
    · intro h0 hd K hK
      have z : u18 = false := h0
      have z19_ : u19 = false := znb fun hu => z.symm.trans ((zu kF hu).2.2.2.2.2.2.2.2.2.2.2.2.2.2.2.2.2.2)
      have zd : u0 = true ∧ u17 = true := by
        simp [Region.binds] at hd
        simp [hd]
      obtain ⟨rfl, rfl⟩ := zd
      subst z19_
      subst z
      clear h0 hd
      rw [if_pos (by rfl)]
      have h7 := (zu k17 rfl rfl).1
      have hb := (zu kB rfl)
      refine wp_append_own W (.tmp 54) (.tmp 71) 25 (by rfl) B 33 iP _ 2 16 Try.underlying25 hi1 hy0 hy1 hy2 rfl (by decide) (.slice (some ⟨gd, 0, none⟩) i cd) i (Lr.map (Value.float .f64)) (by rfl) ((unhide HR).below hb) ⟨n17, 0, none⟩ 1 1 ([rez, imz].map (Value.float .f64)) (by rfl) (by rfl) (src_vb h7) flts_one (by unfold maxLen; omega) (by omega) (Nat.le_trans hBV hb.size) ?_
      intro r8' w1 hown' hgrow _
      have R9 : FRow .f64 w1 B 33 2 r8' (i + 1) (Lr ++ [rez, imz]) := by unfold FRow; rw [List.map_append]; exact hown'
      exact unhide hK _ _ ⟨true, u1, u2, u3, u4, u5, u6, u7, u8, u9, u10, u11, u12, u13, u14, u15, u16, true, true, false, n17, re6, im6, rem, imm, rey, imy, rez, imz, r8', rfl, rfl, zt, (fun _ => zt), zu kx6, zu kx13, zu kx15, zu kx16, (fun _ => ⟨W, hb, R9, hgrow⟩), zu l3, zu l4, zu l6, zu l10, zu l11, zu l12, zu l13, zu l15, zu l16, zu l17, (fun _ => ⟨rfl, rfl⟩), zf⟩
    · intro h0 hd K hK
      have z : u19 = false := h0
      have zd0 : u0 = true ∧ u1 = true ∧ u2 = true ∧ u3 = true ∧ u4 = true ∧ u5 = true ∧ u6 = true ∧ u7 = true ∧ u8 = true ∧ u9 = true ∧ u10 = true ∧ u11 = true ∧ u12 = true ∧ u13 = true ∧ u14 = true ∧ u15 = true ∧ u16 = true ∧ u17 = true ∧ u18 = true := by
        simp [Region.binds] at hd
        simp [hd]
      have zd : u0 = true ∧ u1 = true ∧ u2 = true ∧ u3 = true ∧ u4 = true ∧ u5 = true ∧ u6 = true ∧ u7 = true ∧ u8 = true ∧ u9 = true ∧ u10 = true ∧ u11 = true ∧ u12 = true ∧ u13 = true ∧ u14 = true ∧ u15 = true ∧ u16 = true ∧ u17 = true ∧ u18 = true := ⟨zd0.1, zd0.2.1, zd0.2.2.1, zd0.2.2.2.1, zd0.2.2.2.2.1, zd0.2.2.2.2.2.1, zd0.2.2.2.2.2.2.1, zd0.2.2.2.2.2.2.2.1, zd0.2.2.2.2.2.2.2.2.1, zd0.2.2.2.2.2.2.2.2.2.1, zd0.2.2.2.2.2.2.2.2.2.2.1, zd0.2.2.2.2.2.2.2.2.2.2.2.1, zd0.2.2.2.2.2.2.2.2.2.2.2.2.1, zd0.2.2.2.2.2.2.2.2.2.2.2.2.2.1, zd0.2.2.2.2.2.2.2.2.2.2.2.2.2.2.1, zd0.2.2.2.2.2.2.2.2.2.2.2.2.2.2.2.1, zd0.2.2.2.2.2.2.2.2.2.2.2.2.2.2.2.2.1, zd0.2.2.2.2.2.2.2.2.2.2.2.2.2.2.2.2.2.1, zd0.2.2.2.2.2.2.2.2.2.2.2.2.2.2.2.2.2.2⟩
      obtain ⟨rfl, rfl, rfl, rfl, rfl, rfl, rfl, rfl, rfl, rfl, rfl, rfl, rfl, rfl, rfl, rfl, rfl, rfl, rfl⟩ := zd
      subst z
      clear h0 hd
      rw [if_pos (by rfl)]
      go_simp
      exact unhide hK _ _ ⟨true, true, true, true, true, true, true, true, true, true, true, true, true, true, true, true, true, true, true, true, n17, re6, im6, rem, imm, rey, imy, rez, imz, rr, rfl, rfl, zu kB, (fun _ => zt), zu kx6, zu kx13, zu kx15, zu kx16, zu kZ, (fun _ => ⟨rfl, rfl⟩), (fun _ => rfl), (fun _ => ⟨rfl, rfl⟩), (fun _ => rfl), (fun _ => ⟨rfl, rfl⟩), (fun _ => rfl), (fun _ => ⟨rfl, rfl, rfl⟩), (fun _ => ⟨rfl, rfl⟩), (fun _ => ⟨rfl, rfl⟩), (fun _ => rfl), (fun _ => ⟨rfl, rfl⟩), (fun _ => ⟨rfl, rfl, rfl, rfl, rfl, rfl, rfl, rfl, rfl, rfl, rfl, rfl, rfl, rfl, rfl, rfl, rfl, rfl, rfl⟩)⟩
  case hend =>
    intro Lb A W hI
    obtain ⟨u0, u1, u2, u3, u4, hI⟩ := hI
    obtain ⟨u5, u6, u7, u8, u9, hI⟩ := hI
    obtain ⟨u10, u11, u12, u13, u14, hI⟩ := hI
    obtain ⟨u15, u16, u17, u18, u19, hI⟩ := hI
    obtain ⟨n17, re6, im6, rem, imm, hI⟩ := hI
    obtain ⟨rey, imy, rez, imz, rr, hI⟩ := hI
    obtain ⟨hLb, hI⟩ := hI
    obtain ⟨hA, hI⟩ := hI
    obtain ⟨kB, hI⟩ := hI
    obtain ⟨k17, hI⟩ := hI
    obtain ⟨kx6, hI⟩ := hI
    obtain ⟨kx13, hI⟩ := hI
    obtain ⟨kx15, hI⟩ := hI
    obtain ⟨kx16, hI⟩ := hI
    obtain ⟨kZ, hI⟩ := hI
    obtain ⟨l3, hI⟩ := hI
    obtain ⟨l4, hI⟩ := hI
    obtain ⟨l6, hI⟩ := hI
    obtain ⟨l10, hI⟩ := hI
    obtain ⟨l11, hI⟩ := hI
    obtain ⟨l12, hI⟩ := hI
    obtain ⟨l13, hI⟩ := hI
    obtain ⟨l15, hI⟩ := hI
    obtain ⟨l16, hI⟩ := hI
    obtain ⟨l17, hI⟩ := hI
    obtain ⟨l18, hI⟩ := hI
    have kF := hI
    clear hI
    subst hLb
    subst hA
    intro hL
    have hl : u0 = true ∧ u1 = true ∧ u2 = true ∧ u3 = true ∧ u4 = true ∧ u5 = true ∧ u6 = true ∧ u7 = true ∧ u8 = true ∧ u9 = true ∧ u10 = true ∧ u11 = true ∧ u12 = true ∧ u13 = true ∧ u14 = true ∧ u15 = true ∧ u16 = true ∧ u17 = true ∧ u18 = true ∧ u19 = true := by
      have h2 := congrArg Array.toList hL
      simpa [List.replicate] using h2
    obtain ⟨rfl, rfl, rfl, rfl, rfl, rfl, rfl, rfl, rfl, rfl, rfl, rfl, rfl, rfl, rfl, rfl, rfl, rfl, rfl, rfl⟩ := hl
    obtain ⟨W1, hA, hZ, hG⟩ := kZ rfl
    exact unhide HQ n17 re6 im6 rem imm rey imy rez imz rr W1 W hA (kx6 rfl) (kx13 rfl) (kx15 rfl) (kx16 rfl) hZ hG

set_option maxHeartbeats 4000000 in
set_option maxRecDepth 100000 in
theorem sw21 {s0 s1 s2 s3 s4 s5 s7 s8 s9 s10 s14 s15 s16 s17 s18 s19 s20 s21 s22 s23 s24 s25 s26 s27 s28 s29 s30 s31 s32 s33 s34 s35 s36 s37 s38 s39 s40 s41 s42 s43 s44 s45 s46 s47 s48 s49 s50 s51 s52 s53 s54 s55 s56 s57 s58 s59 s60 s61 s62 s63 s64 s65 s66 s67 s68 s69 s70 s71 s72 s73 s74 s75 s76 s77 s78 s79 s80 s81 s82 s83 s84 s85 s86 s87 s88 s89 s90 s91 s92 s93 s94 s95 s96 s97 s98 s99 s100 s101 s102 s103 s104 s105 s106 s107 s108 s109 s110 s111 s112 s113 s114 s115 s116 s117 s118 s119 s120 s121 s122 s123 s124 : Value} {go n i gl gd cd q l0 l1 y0 y1 d0 d1 : Nat} {Tm Ta_ Ty_ : Tn} {V : World} {K_ : Act → World → Prop} 
    (HL0 : Hid (V.cell? ⟨gl, 0, none⟩ = some (.float .f64 l0))) (HL1 : Hid (V.cell? ⟨gl, 1, none⟩ = some (.float .f64 l1))) (HO_0 : Hid (V.cell? ⟨go, q * 2, none⟩ = some (.float .f64 y0))) (HO_1 : Hid (V.cell? ⟨go, q * 2 + 1, none⟩ = some (.float .f64 y1))) (HD0 : Hid (V.cell? ⟨gd, i * 2, none⟩ = some (.float .f64 d0))) (HD1 : Hid (V.cell? ⟨gd, i * 2 + 1, none⟩ = some (.float .f64 d1))) (hbO : go < V.heap.size) {oo0 : Value} (HO0 : Hid (V.cell? ⟨go, i * 2, none⟩ = some oo0)) {oo1 : Value} (HO1 : Hid (V.cell? ⟨go, i * 2 + 1, none⟩ = some oo1)) (HOf : Hid (∀ o, V.frozen? ⟨go, o, none⟩ = false))
    (HW5 : Hid (IntKind.i64.wrap ((i : Int) + 1) = (q : Int)))
    (HX6 : Hid (q < n))
    (HF8 : Hid (∀ Xw, Below V.heap.size V Xw → Calls Try.prog 50 #[.agg #[.float .f64 l0, .float .f64 l1], .agg #[.float .f64 y0, .float .f64 y1]] Xw fun e w' => (∃ rem imm : Nat, e = .returned (.agg #[.float .f64 rem, .float .f64 imm]) ∧ tv rem imm = Tm) ∧ Below Xw.heap.size Xw w'))
    (HX11 : Hid (i < n))
    (HF14 : Hid (∀ Xw, Below V.heap.size V Xw → Calls Try.prog 46 #[.agg #[.float .f64 d0, .float .f64 d1], .agg #[.float .f64 l0, .float .f64 l1]] Xw fun e w' => (∃ rea ima : Nat, e = .returned (.agg #[.float .f64 rea, .float .f64 ima]) ∧ tv rea ima = Ta_) ∧ Below Xw.heap.size Xw w'))
    (HF15 : Hid (∀ rem imm : Nat, tv rem imm = Tm → ∀ rea ima : Nat, tv rea ima = Ta_ → ∀ Xw, Below V.heap.size V Xw → Calls Try.prog 49 #[.agg #[.float .f64 rem, .float .f64 imm], .agg #[.float .f64 rea, .float .f64 ima]] Xw fun e w' => (∃ rey imy : Nat, e = .returned (.agg #[.float .f64 rey, .float .f64 imy]) ∧ tv rey imy = Ty_) ∧ Below Xw.heap.size Xw w'))
    (HX16 : Hid (i < n))
    (hQ : ∀  (rem imm : Nat) (rea ima : Nat) (rey imy : Nat) (W1 W9 : World), W9 = ((W1.setCell ⟨go, i * 2, none⟩ (.float .f64 rey)).setCell ⟨go, i * 2 + 1, none⟩ (.float .f64 imy)) → Below V.heap.size V W1 → tv rem imm = Tm → tv rea ima = Ta_ → tv rey imy = Ty_ → K_ { tmps := #[s0, s1, s2, s3, s4, s5, .slice (some ⟨gd, 0, none⟩) n cd, s7, s8, s9, s10, .slice (some ⟨go, 0, none⟩) n n, .int .i64 (i : Int), .pointer (some ⟨gl, 0, none⟩), s14, s15, s16, s17, s18, s19, s20, s21, s22, s23, s24, s25, s26, s27, s28, s29, s30, s31, s32, s33, s34, s35, s36, s37, s38, s39, s40, s41, s42, s43, s44, s45, s46, s47, s48, s49, s50, s51, s52, s53, s54, s55, s56, s57, s58, s59, s60, s61, s62, s63, s64, s65, s66, s67, s68, s69, s70, s71, s72, s73, s74, s75, s76, s77, s78, s79, s80, s81, s82, s83, s84, s85, s86, s87, s88, s89, s90, s91, s92, s93, s94, s95, s96, s97, s98, s99, s100, s101, s102, s103, s104, s105, s106, .slice (some ⟨go, 0, none⟩) n n, .int .i64 (i : Int), .agg #[.float .f64 l0, .float .f64 l1], .slice (some ⟨go, 0, none⟩) n n, .int .i64 (i : Int), .int .i64 (q : Int), .pointer (some ⟨go, q * 2, none⟩), .agg #[.float .f64 y0, .float .f64 y1], .agg #[.float .f64 rem, .float .f64 imm], .slice (some ⟨gd, 0, none⟩) n cd, .int .i64 (i : Int), .pointer (some ⟨gd, i * 2, none⟩), .agg #[.float .f64 d0, .float .f64 d1], .agg #[.float .f64 l0, .float .f64 l1], .agg #[.float .f64 rea, .float .f64 ima], .agg #[.float .f64 rey, .float .f64 imy], .pointer (some ⟨go, i * 2, none⟩), s124], defers := [] } W9) :
    Go.Code.wp Try.prog (rg13 21) (Only K_) { tmps := #[s0, s1, s2, s3, s4, s5, .slice (some ⟨gd, 0, none⟩) n cd, s7, s8, s9, s10, .slice (some ⟨go, 0, none⟩) n n, .int .i64 (i : Int), .pointer (some ⟨gl, 0, none⟩), s14, s15, s16, s17, s18, s19, s20, s21, s22, s23, s24, s25, s26, s27, s28, s29, s30, s31, s32, s33, s34, s35, s36, s37, s38, s39, s40, s41, s42, s43, s44, s45, s46, s47, s48, s49, s50, s51, s52, s53, s54, s55, s56, s57, s58, s59, s60, s61, s62, s63, s64, s65, s66, s67, s68, s69, s70, s71, s72, s73, s74, s75, s76, s77, s78, s79, s80, s81, s82, s83, s84, s85, s86, s87, s88, s89, s90, s91, s92, s93, s94, s95, s96, s97, s98, s99, s100, s101, s102, s103, s104, s105, s106, s107, s108, s109, s110, s111, s112, s113, s114, s115, s116, s117, s118, s119, s120, s121, s122, s123, s124], defers := [] } V := by
  have HQ := hide hQ
  clear hQ
  conv => arg 2; whnf
  refine wp_region_inv2 (fun Lb A W => ∃ (u0 u1 u2 u3 u4 u5 u6 u7 u8 u9 u10 u11 u12 u13 u14 u15 u16 u17 : Bool) (rem : Nat) (imm : Nat) (rea : Nat) (ima : Nat) (rey : Nat) (imy : Nat), Lb = #[u0, u1, u2, u3, u4, u5, u6, u7, u8, u9, u10, u11, u12, u13, u14, u15, u16, u17] ∧ A = ({ tmps := #[s0, s1, s2, s3, s4, s5, .slice (some ⟨gd, 0, none⟩) n cd, s7, s8, s9, s10, .slice (some ⟨go, 0, none⟩) n n, .int .i64 (i : Int), .pointer (some ⟨gl, 0, none⟩), s14, s15, s16, s17, s18, s19, s20, s21, s22, s23, s24, s25, s26, s27, s28, s29, s30, s31, s32, s33, s34, s35, s36, s37, s38, s39, s40, s41, s42, s43, s44, s45, s46, s47, s48, s49, s50, s51, s52, s53, s54, s55, s56, s57, s58, s59, s60, s61, s62, s63, s64, s65, s66, s67, s68, s69, s70, s71, s72, s73, s74, s75, s76, s77, s78, s79, s80, s81, s82, s83, s84, s85, s86, s87, s88, s89, s90, s91, s92, s93, s94, s95, s96, s97, s98, s99, s100, s101, s102, s103, s104, s105, s106, (bif u0 then .slice (some ⟨go, 0, none⟩) n n else s107), (bif u1 then .int .i64 (i : Int) else s108), (bif u2 then .agg #[.float .f64 l0, .float .f64 l1] else s109), (bif u3 then .slice (some ⟨go, 0, none⟩) n n else s110), (bif u4 then .int .i64 (i : Int) else s111), (bif u5 then .int .i64 (q : Int) else s112), (bif u6 then .pointer (some ⟨go, q * 2, none⟩) else s113), (bif u7 then .agg #[.float .f64 y0, .float .f64 y1] else s114), (bif u8 then .agg #[.float .f64 rem, .float .f64 imm] else s115), (bif u9 then .slice (some ⟨gd, 0, none⟩) n cd else s116), (bif u10 then .int .i64 (i : Int) else s117), (bif u11 then .pointer (some ⟨gd, i * 2, none⟩) else s118), (bif u12 then .agg #[.float .f64 d0, .float .f64 d1] else s119), (bif u13 then .agg #[.float .f64 l0, .float .f64 l1] else s120), (bif u14 then .agg #[.float .f64 rea, .float .f64 ima] else s121), (bif u15 then .agg #[.float .f64 rey, .float .f64 imy] else s122), (bif u16 then .pointer (some ⟨go, i * 2, none⟩) else s123), s124], defers := [] } : Act) ∧ (u17 = false → Below V.heap.size V W) ∧ (u17 = true → ∃ W1, Below V.heap.size V W1 ∧ W = ((W1.setCell ⟨go, i * 2, none⟩ (.float .f64 rey)).setCell ⟨go, i * 2 + 1, none⟩ (.float .f64 imy))) ∧ (u8 = true → tv rem imm = Tm) ∧ (u14 = true → tv rea ima = Ta_) ∧ (u15 = true → tv rey imy = Ty_) ∧ (u17 = true → u0 = true ∧ u1 = true ∧ u2 = true ∧ u3 = true ∧ u4 = true ∧ u5 = true ∧ u6 = true ∧ u7 = true ∧ u8 = true ∧ u9 = true ∧ u10 = true ∧ u11 = true ∧ u12 = true ∧ u13 = true ∧ u14 = true ∧ u15 = true ∧ u16 = true)) (by kernel_rfl) (by kernel_rfl) ?h0 ?hstep ?hend
  case h0 =>
    exact ⟨false, false, false, false, false, false, false, false, false, false, false, false, false, false, false, false, false, false, 0, 0, 0, 0, 0, 0, rfl, rfl, (fun _ => Below.drew (Below.refl _ _)), zf, zf, zf, zf, zf⟩
  case hstep =>
    intro Lb A W hI
    obtain ⟨u0, u1, u2, u3, u4, hI⟩ := hI
    obtain ⟨u5, u6, u7, u8, u9, hI⟩ := hI
    obtain ⟨u10, u11, u12, u13, u14, hI⟩ := hI
    obtain ⟨u15, u16, u17, rem, imm, hI⟩ := hI
    obtain ⟨rea, ima, rey, imy, hI⟩ := hI
    obtain ⟨hLb, hI⟩ := hI
    obtain ⟨hA, hI⟩ := hI
    obtain ⟨kB, hI⟩ := hI
    obtain ⟨kZ, hI⟩ := hI
    obtain ⟨kx8, hI⟩ := hI
    obtain ⟨kx14, hI⟩ := hI
    obtain ⟨kx15, hI⟩ := hI
    have kF := hI
    clear hI
    subst hLb
    subst hA
    replace kB := hide kB
    replace kZ := hide kZ
    replace kx8 := hide kx8
    replace kx14 := hide kx14
    replace kx15 := hide kx15
    replace kF := hide kF
    refine ⟨?_, ?_, ?_, ?_, ?_, ?_, ?_, ?_, ?_, ?_, ?_, ?_, ?_, ?_, ?_, ?_, ?_, ?_, trivial⟩
    · intro h0 hd K hK
      have z : u0 = false := h0
      have z17_ : u17 = false := znb fun hu => z.symm.trans ((zu kF hu).1)
      subst z17_
      subst z
      clear h0 hd
      rw [if_pos (by rfl)]
      go_simp
      exact unhide hK _ _ ⟨true, u1, u2, u3, u4, u5, u6, u7, u8, u9, u10, u11, u12, u13, u14, u15, u16, false, rem, imm, rea, ima, rey, imy, rfl, rfl, zu kB, zf, zu kx8, zu kx14, zu kx15, zf⟩
    · intro h0 hd K hK
      have z : u1 = false := h0
      have z17_ : u17 = false := znb fun hu => z.symm.trans ((zu kF hu).2.1)
      subst z17_
      subst z
      clear h0 hd
      rw [if_pos (by rfl)]
      go_simp
      exact unhide hK _ _ ⟨u0, true, u2, u3, u4, u5, u6, u7, u8, u9, u10, u11, u12, u13, u14, u15, u16, false, rem, imm, rea, ima, rey, imy, rfl, rfl, zu kB, zf, zu kx8, zu kx14, zu kx15, zf⟩
    · intro h0 hd K hK
      have z : u2 = false := h0
      have z17_ : u17 = false := znb fun hu => z.symm.trans ((zu kF hu).2.2.1)
      subst z17_
      subst z
      clear h0 hd
      rw [if_pos (by rfl)]
      have c0 := keep1 (zu kB rfl) (unhide HL0)
      have c1 := keep1 (zu kB rfl) (unhide HL1)
      go_simp
      exact unhide hK _ _ ⟨u0, u1, true, u3, u4, u5, u6, u7, u8, u9, u10, u11, u12, u13, u14, u15, u16, false, rem, imm, rea, ima, rey, imy, rfl, rfl, zu kB, zf, zu kx8, zu kx14, zu kx15, zf⟩
    · intro h0 hd K hK
      have z : u3 = false := h0
      have z17_ : u17 = false := znb fun hu => z.symm.trans ((zu kF hu).2.2.2.1)
      subst z17_
      subst z
      clear h0 hd
      rw [if_pos (by rfl)]
      go_simp
      exact unhide hK _ _ ⟨u0, u1, u2, true, u4, u5, u6, u7, u8, u9, u10, u11, u12, u13, u14, u15, u16, false, rem, imm, rea, ima, rey, imy, rfl, rfl, zu kB, zf, zu kx8, zu kx14, zu kx15, zf⟩
    · intro h0 hd K hK
      have z : u4 = false := h0
      have z17_ : u17 = false := znb fun hu => z.symm.trans ((zu kF hu).2.2.2.2.1)
      subst z17_
      subst z
      clear h0 hd
      rw [if_pos (by rfl)]
      go_simp
      exact unhide hK _ _ ⟨u0, u1, u2, u3, true, u5, u6, u7, u8, u9, u10, u11, u12, u13, u14, u15, u16, false, rem, imm, rea, ima, rey, imy, rfl, rfl, zu kB, zf, zu kx8, zu kx14, zu kx15, zf⟩
    · intro h0 hd K hK
      have z : u5 = false := h0
      have z17_ : u17 = false := znb fun hu => z.symm.trans ((zu kF hu).2.2.2.2.2.1)
      have zd : u4 = true := by
        simp [Region.binds] at hd
        simp [hd]
      obtain ⟨rfl⟩ := zd
      subst z17_
      subst z
      clear h0 hd
      rw [if_pos (by rfl)]
      have wq := unhide HW5
      go_simp
      exact unhide hK _ _ ⟨u0, u1, u2, u3, true, true, u6, u7, u8, u9, u10, u11, u12, u13, u14, u15, u16, false, rem, imm, rea, ima, rey, imy, rfl, rfl, zu kB, zf, zu kx8, zu kx14, zu kx15, zf⟩
    · intro h0 hd K hK
      have z : u6 = false := h0
      have z17_ : u17 = false := znb fun hu => z.symm.trans ((zu kF hu).2.2.2.2.2.2.1)
      have zd : u3 = true ∧ u5 = true := by
        simp [Region.binds] at hd
        simp [hd]
      obtain ⟨rfl, rfl⟩ := zd
      subst z17_
      subst z
      clear h0 hd
      rw [if_pos (by rfl)]
      have q1 : q < n := unhide HX6
      have q2 : (q : Int) < (n : Int) := by omega
      go_simp
      exact unhide hK _ _ ⟨u0, u1, u2, true, u4, true, true, u7, u8, u9, u10, u11, u12, u13, u14, u15, u16, false, rem, imm, rea, ima, rey, imy, rfl, rfl, zu kB, zf, zu kx8, zu kx14, zu kx15, zf⟩
    · intro h0 hd K hK
      have z : u7 = false := h0
      have z17_ : u17 = false := znb fun hu => z.symm.trans ((zu kF hu).2.2.2.2.2.2.2.1)
      have zd : u6 = true := by
        simp [Region.binds] at hd
        simp [hd]
      obtain ⟨rfl⟩ := zd
      subst z17_
      subst z
      clear h0 hd
      rw [if_pos (by rfl)]
      have c0 := keep1 (zu kB rfl) (unhide HO_0)
      have c1 := keep1 (zu kB rfl) (unhide HO_1)
      go_simp
      exact unhide hK _ _ ⟨u0, u1, u2, u3, u4, u5, true, true, u8, u9, u10, u11, u12, u13, u14, u15, u16, false, rem, imm, rea, ima, rey, imy, rfl, rfl, zu kB, zf, zu kx8, zu kx14, zu kx15, zf⟩
    · intro h0 hd K hK
      have z : u8 = false := h0
      have z17_ : u17 = false := znb fun hu => z.symm.trans ((zu kF hu).2.2.2.2.2.2.2.2.1)
      have zd : u2 = true ∧ u7 = true := by
        simp [Region.binds] at hd
        simp [hd]
      obtain ⟨rfl, rfl⟩ := zd
      subst z17_
      subst z
      clear h0 hd
      rw [if_pos (by rfl)]
      go_simp
      refine (unhide HF8 W (zu kB rfl)).mono ?_
      rintro e w8 ⟨⟨rem_, imm_, rfl, hr_⟩, hb8⟩
      exact unhide hK _ _ ⟨u0, u1, true, u3, u4, u5, u6, true, true, u9, u10, u11, u12, u13, u14, u15, u16, false, rem_, imm_, rea, ima, rey, imy, rfl, rfl, (fun _ => bc (zu kB rfl) hb8), zf, (fun _ => hr_), zu kx14, zu kx15, zf⟩
    · intro h0 hd K hK
      have z : u9 = false := h0
      have z17_ : u17 = false := znb fun hu => z.symm.trans ((zu kF hu).2.2.2.2.2.2.2.2.2.1)
      subst z17_
      subst z
      clear h0 hd
      rw [if_pos (by rfl)]
      go_simp
      exact unhide hK _ _ ⟨u0, u1, u2, u3, u4, u5, u6, u7, u8, true, u10, u11, u12, u13, u14, u15, u16, false, rem, imm, rea, ima, rey, imy, rfl, rfl, zu kB, zf, zu kx8, zu kx14, zu kx15, zf⟩
    · intro h0 hd K hK
      have z : u10 = false := h0
      have z17_ : u17 = false := znb fun hu => z.symm.trans ((zu kF hu).2.2.2.2.2.2.2.2.2.2.1)
      subst z17_
      subst z
      clear h0 hd
      rw [if_pos (by rfl)]
      go_simp
      exact unhide hK _ _ ⟨u0, u1, u2, u3, u4, u5, u6, u7, u8, u9, true, u11, u12, u13, u14, u15, u16, false, rem, imm, rea, ima, rey, imy, rfl, rfl, zu kB, zf, zu kx8, zu kx14, zu kx15, zf⟩
    · intro h0 hd K hK
      have z : u11 = false := h0
      have z17_ : u17 = false := znb fun hu => z.symm.trans ((zu kF hu).2.2.2.2.2.2.2.2.2.2.2.1)
      have zd : u9 = true ∧ u10 = true := by
        simp [Region.binds] at hd
        simp [hd]
      obtain ⟨rfl, rfl⟩ := zd
      subst z17_
      subst z
      clear h0 hd
      rw [if_pos (by rfl)]
      have q1 : i < n := unhide HX11
      have q2 : (i : Int) < (n : Int) := by omega
      go_simp
      exact unhide hK _ _ ⟨u0, u1, u2, u3, u4, u5, u6, u7, u8, true, true, true, u12, u13, u14, u15, u16, false, rem, imm, rea, ima, rey, imy, rfl, rfl, zu kB, zf, zu kx8, zu kx14, zu kx15, zf⟩
    · intro h0 hd K hK
      have z : u12 = false := h0
      have z17_ : u17 = false := znb fun hu => z.symm.trans ((zu kF hu).2.2.2.2.2.2.2.2.2.2.2.2.1)
      have zd : u11 = true := by
        simp [Region.binds] at hd
        simp [hd]
      obtain ⟨rfl⟩ := zd
      subst z17_
      subst z
      clear h0 hd
      rw [if_pos (by rfl)]
      have c0 := keep1 (zu kB rfl) (unhide HD0)
      have c1 := keep1 (zu kB rfl) (unhide HD1)
      go_simp
      exact unhide hK _ _ ⟨u0, u1, u2, u3, u4, u5, u6, u7, u8, u9, u10, true, true, u13, u14, u15, u16, false, rem, imm, rea, ima, rey, imy, rfl, rfl, zu kB, zf, zu kx8, zu kx14, zu kx15, zf⟩
    · intro h0 hd K hK
      have z : u13 = false := h0
      have z17_ : u17 = false := znb fun hu => z.symm.trans ((zu kF hu).2.2.2.2.2.2.2.2.2.2.2.2.2.1)
      subst z17_
      subst z
      clear h0 hd
      rw [if_pos (by rfl)]
      have c0 := keep1 (zu kB rfl) (unhide HL0)
      have c1 := keep1 (zu kB rfl) (unhide HL1)
      go_simp
      exact unhide hK _ _ ⟨u0, u1, u2, u3, u4, u5, u6, u7, u8, u9, u10, u11, u12, true, u14, u15, u16, false, rem, imm, rea, ima, rey, imy, rfl, rfl, zu kB, zf, zu kx8, zu kx14, zu kx15, zf⟩
    · intro h0 hd K hK
      have z : u14 = false := h0
      have z17_ : u17 = false := znb fun hu => z.symm.trans ((zu kF hu).2.2.2.2.2.2.2.2.2.2.2.2.2.2.1)
      have zd : u12 = true ∧ u13 = true ∧ u8 = true := by
        simp [Region.binds] at hd
        simp [hd]
      obtain ⟨rfl, rfl, rfl⟩ := zd
      subst z17_
      subst z
      clear h0 hd
      rw [if_pos (by rfl)]
      go_simp
      refine (unhide HF14 W (zu kB rfl)).mono ?_
      rintro e w8 ⟨⟨rea_, ima_, rfl, hr_⟩, hb8⟩
      exact unhide hK _ _ ⟨u0, u1, u2, u3, u4, u5, u6, u7, true, u9, u10, u11, true, true, true, u15, u16, false, rem, imm, rea_, ima_, rey, imy, rfl, rfl, (fun _ => bc (zu kB rfl) hb8), zf, zu kx8, (fun _ => hr_), zu kx15, zf⟩
    · intro h0 hd K hK
      have z : u15 = false := h0
      have z17_ : u17 = false := znb fun hu => z.symm.trans ((zu kF hu).2.2.2.2.2.2.2.2.2.2.2.2.2.2.2.1)
      have zd : u8 = true ∧ u14 = true := by
        simp [Region.binds] at hd
        simp [hd]
      obtain ⟨rfl, rfl⟩ := zd
      subst z17_
      subst z
      clear h0 hd
      rw [if_pos (by rfl)]
      go_simp
      refine (unhide HF15 _ _ (zu kx8 rfl) _ _ (zu kx14 rfl) W (zu kB rfl)).mono ?_
      rintro e w8 ⟨⟨rey_, imy_, rfl, hr_⟩, hb8⟩
      exact unhide hK _ _ ⟨u0, u1, u2, u3, u4, u5, u6, u7, true, u9, u10, u11, u12, u13, true, true, u16, false, rem, imm, rea, ima, rey_, imy_, rfl, rfl, (fun _ => bc (zu kB rfl) hb8), zf, zu kx8, zu kx14, (fun _ => hr_), zf⟩
    · intro h0 hd K hK
      have z : u16 = false := h0
      have z17_ : u17 = false := znb fun hu => z.symm.trans ((zu kF hu).2.2.2.2.2.2.2.2.2.2.2.2.2.2.2.2)
      have zd : u0 = true ∧ u1 = true ∧ u15 = true := by
        simp [Region.binds] at hd
        simp [hd]
      obtain ⟨rfl, rfl, rfl⟩ := zd
      subst z17_
      subst z
      clear h0 hd
      rw [if_pos (by rfl)]
      have q1 : i < n := unhide HX16
      have q2 : (i : Int) < (n : Int) := by omega
      go_simp
      exact unhide hK _ _ ⟨true, true, u2, u3, u4, u5, u6, u7, u8, u9, u10, u11, u12, u13, u14, true, true, false, rem, imm, rea, ima, rey, imy, rfl, rfl, zu kB, zf, zu kx8, zu kx14, zu kx15, zf⟩
    · intro h0 hd K hK
      have z : u17 = false := h0
      have zd0 : u0 = true ∧ u1 = true ∧ u2 = true ∧ u3 = true ∧ u4 = true ∧ u5 = true ∧ u6 = true ∧ u7 = true ∧ u8 = true ∧ u9 = true ∧ u10 = true ∧ u11 = true ∧ u12 = true ∧ u13 = true ∧ u14 = true ∧ u15 = true ∧ u16 = true := by
        simp [Region.binds] at hd
        simp [hd]
      have zd : u0 = true ∧ u1 = true ∧ u2 = true ∧ u3 = true ∧ u4 = true ∧ u5 = true ∧ u6 = true ∧ u7 = true ∧ u8 = true ∧ u9 = true ∧ u10 = true ∧ u11 = true ∧ u12 = true ∧ u13 = true ∧ u14 = true ∧ u15 = true ∧ u16 = true := ⟨zd0.1, zd0.2.1, zd0.2.2.1, zd0.2.2.2.1, zd0.2.2.2.2.1, zd0.2.2.2.2.2.1, zd0.2.2.2.2.2.2.1, zd0.2.2.2.2.2.2.2.1, zd0.2.2.2.2.2.2.2.2.1, zd0.2.2.2.2.2.2.2.2.2.1, zd0.2.2.2.2.2.2.2.2.2.2.1, zd0.2.2.2.2.2.2.2.2.2.2.2.1, zd0.2.2.2.2.2.2.2.2.2.2.2.2.1, zd0.2.2.2.2.2.2.2.2.2.2.2.2.2.1, zd0.2.2.2.2.2.2.2.2.2.2.2.2.2.2.1, zd0.2.2.2.2.2.2.2.2.2.2.2.2.2.2.2.1, zd0.2.2.2.2.2.2.2.2.2.2.2.2.2.2.2.2⟩
      obtain ⟨rfl, rfl, rfl, rfl, rfl, rfl, rfl, rfl, rfl, rfl, rfl, rfl, rfl, rfl, rfl, rfl, rfl⟩ := zd
      subst z
      clear h0 hd
      rw [if_pos (by rfl)]
      have hB := (zu kB rfl)
      have q0 := keep1 hB (unhide HO0)
      have q1 := keep1 hB (unhide HO1)
      have fz : ∀ o, W.frozen? ⟨go, o, none⟩ = false := fun o => keepz hB hbO (unhide HOf o)
      have HBB := hide hB
      clear hB
      go_simp
      exact unhide hK _ _ ⟨true, true, true, true, true, true, true, true, true, true, true, true, true, true, true, true, true, true, rem, imm, rea, ima, rey, imy, rfl, rfl, zt, (fun _ => ⟨W, unhide HBB, rfl⟩), zu kx8, zu kx14, zu kx15, (fun _ => ⟨rfl, rfl, rfl, rfl, rfl, rfl, rfl, rfl, rfl, rfl, rfl, rfl, rfl, rfl, rfl, rfl, rfl⟩)⟩
  case hend =>
    intro Lb A W hI
    obtain ⟨u0, u1, u2, u3, u4, hI⟩ := hI
    obtain ⟨u5, u6, u7, u8, u9, hI⟩ := hI
    obtain ⟨u10, u11, u12, u13, u14, hI⟩ := hI
    obtain ⟨u15, u16, u17, rem, imm, hI⟩ := hI
    obtain ⟨rea, ima, rey, imy, hI⟩ := hI
    obtain ⟨hLb, hI⟩ := hI
    obtain ⟨hA, hI⟩ := hI
    obtain ⟨kB, hI⟩ := hI
    obtain ⟨kZ, hI⟩ := hI
    obtain ⟨kx8, hI⟩ := hI
    obtain ⟨kx14, hI⟩ := hI
    obtain ⟨kx15, hI⟩ := hI
    have kF := hI
    clear hI
    subst hLb
    subst hA
    intro hL
    have hl : u0 = true ∧ u1 = true ∧ u2 = true ∧ u3 = true ∧ u4 = true ∧ u5 = true ∧ u6 = true ∧ u7 = true ∧ u8 = true ∧ u9 = true ∧ u10 = true ∧ u11 = true ∧ u12 = true ∧ u13 = true ∧ u14 = true ∧ u15 = true ∧ u16 = true ∧ u17 = true := by
      have h2 := congrArg Array.toList hL
      simpa [List.replicate] using h2
    obtain ⟨rfl, rfl, rfl, rfl, rfl, rfl, rfl, rfl, rfl, rfl, rfl, rfl, rfl, rfl, rfl, rfl, rfl, rfl⟩ := hl
    obtain ⟨W1, hA, hZ⟩ := kZ rfl
    exact unhide HQ  rem imm rea ima rey imy W1 W hZ hA (kx8 rfl) (kx14 rfl) (kx15 rfl)

end Go.Proofs.Ytgocgcnpgmamiaa
