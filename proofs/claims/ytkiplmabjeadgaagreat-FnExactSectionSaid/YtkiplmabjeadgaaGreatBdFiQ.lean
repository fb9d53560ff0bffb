/- A statement of the model's squares that draws its order, walked alone. -/
import Derived.Test.YtkiplmabjeadgaaGreatBdTcQ
import Derived.Test.YtkiplmabjeadgaaGreatBdMemQ
import Derived.Test.YtkiplmabjeadgaaGreatInv3Q
import Derived.Test.YtkiplmabjeadgaaGreatBaseQ
namespace Go.Proofs.YtkiplmabjeadgaaGreat
set_option maxRecDepth 100000
set_option maxHeartbeats 16000000
open Go.ChangeShapes Go.WideShapes Go.ChangeAt Go.RowKit
set_option linter.unusedVariables false
set_option linter.unusedSimpArgs false
theorem filP_same {b : Bx} {v : Bool} {n : Nat} {c : Cs} {K : Nat} (h : inB b K = true) (e : (filP b v n c K).full K = v) : filP b v n c (K + 1) = filP b v n c K := by
 obtain ⟨h1, h2, _⟩ := filP_in v n c h
 have e1 : (filP b v n c (K + 1)).full = (filP b v n c K).full := by
  rw [h1]; funext j; split
  ·rename_i q; subst q; exact e.symm
  ·rfl
 have e2 : (filP b v n c (K + 1)).by_ = (filP b v n c K).by_ := by
  rw [h2]; funext j; split
  ·rename_i q; subst q; first | rfl | rw [if_pos e] | simp [e]
  ·rfl
 show Cs.mk (filP b v n c (K + 1)).full (filP b v n c (K + 1)).by_ = Cs.mk (filP b v n c K).full (filP b v n c K).by_
 rw [e1, e2]
theorem filP_put {b : Bx} {v : Bool} {n : Nat} {c : Cs} {K : Nat} (h : inB b K = true) (e : (filP b v n c K).full K ≠ v) : (filP b v n c (K + 1)).full = (fun k => if k = K then v else (filP b v n c K).full k) ∧ (filP b v n c (K + 1)).by_ = (fun k => if k = K then n else (filP b v n c K).by_ k) := by
 obtain ⟨h1, h2, _⟩ := filP_in v n c h;refine ⟨h1, ?_⟩;rw [h2]
 funext j
 split
 ·first | rfl | rw [if_neg e] | simp [e]
 ·rfl
theorem fill_any (g gf gb : Nat) (l d o : Value) (cf cb : Nat) (b : Bx) (v : Bool) (n : Nat) (c : Cs) (w : World) (hg : vb w g 97 [l, d, .slice (some ⟨gf, 0, none⟩) 13824 cf, .slice (some ⟨gb, 0, none⟩) 13824 cb, o])
  (hc : CsM w gf gb c) (h1 : g ≠ gf) (h2 : g ≠ gb) (h3 : gf ≠ gb) (hb : bxOk b = true) :
  Calls Tryz.prog 111 #[.pointer (some ⟨g, 0, none⟩), bxv b, .bool v, .int .i64 (n : Int)] w fun e w' => e = .returned (.tuple #[]) ∧ CsM w' gf gb (fil b v n c) ∧ Tw gf gb w w' := by
 obtain ⟨⟨hx0, hx1, hx2⟩, ⟨hy0, hy1, hy2⟩, ⟨hz0, hz1, hz2⟩⟩ := bxOk_iff.1 hb
 obtain ⟨x0, ex0⟩ : ∃ q : Nat, b.x0 = (q : Int) := ⟨b.x0.toNat, by omega⟩
 obtain ⟨x1, ex1⟩ : ∃ q : Nat, b.x1 = (q : Int) := ⟨b.x1.toNat, by omega⟩
 obtain ⟨y0, ey0⟩ : ∃ q : Nat, b.y0 = (q : Int) := ⟨b.y0.toNat, by omega⟩
 obtain ⟨y1, ey1⟩ : ∃ q : Nat, b.y1 = (q : Int) := ⟨b.y1.toNat, by omega⟩
 obtain ⟨z0, ez0⟩ : ∃ q : Nat, b.z0 = (q : Int) := ⟨b.z0.toNat, by omega⟩
 obtain ⟨z1, ez1⟩ : ∃ q : Nat, b.z1 = (q : Int) := ⟨b.z1.toNat, by omega⟩
 unfold bxv;rw [ex0, ex1, ey0, ey1, ez0, ez1];have HB : Hid (∀ x y z : Nat, x0 ≤ x → x < x1 → y0 ≤ y → y < y1 → z0 ≤ z → z < z1 → inB b ((z * 24 + y) * 24 + x) = true) := hide (fun x y z a1 a2 a3 a4 a5 a6 => inB_at ⟨by omega, by omega⟩ ⟨by omega, by omega⟩ ⟨by omega, by omega⟩ (by omega) (by omega));have HRW := hide (fun y z (hy : y < 24) => filP_row v n c (y := y) (z := z) ex1 (by omega) hy);have HRL := hide (fun y z => filP_rowL v n c (y := y) (z := z) ex0 (by omega));have HLY := hide (fun z => filP_lay v n c (z := z) ey1 (by omega))
 have HLL := hide (fun z => filP_layL v n c (z := z) ey0 (by omega));have HTP := hide (filP_top v n c ez1 (by omega));have HBT := hide (filP_bot v n c ez0);rw [ex0, ex1] at hx1;rw [ey0, ey1] at hy1;rw [ez0, ez1] at hz1;rw [ex1] at hx2;rw [ey1] at hy2;rw [ez1] at hz2;have HIN := hide (fun K (h : inB b K = true) => And.intro (fun e => filP_same (v := v) (n := n) (c := c) h e) (fun e => filP_put (v := v) (n := n) (c := c) h e));clear hb ex0 ex1 ey0 ey1 ez0 ez1 hx0 hy0 hz0;have HG := hide hg;have HC := hide hc;have H1 := hide h1;have H2 := hide h2;have H3 := hide h3
 have HNB : Hid (∀ W, Tw gf gb w W → vb W g 97 [l, d, .slice (some ⟨gf, 0, none⟩) 13824 cf, .slice (some ⟨gb, 0, none⟩) 13824 cb, o]) := hide (fun W hW => hW.vb (zu HG) (zu H1) (zu H2));have hgl := hg.lt;have hgfl := hc.f.lt;have hgbl := hc.b.lt;have q1 : w.heap.size ≠ gf := by omega
 have q2 : w.heap.size ≠ gb := by omega
 have HQ := hide (And.intro q1 q2);have HV0 : Hid (vb (w.alloc (.cells #[.int .i64 (x0 : Int), .int .i64 (y0 : Int), .int .i64 (z0 : Int), .int .i64 (x1 : Int), .int .i64 (y1 : Int), .int .i64 (z1 : Int)] 41)) w.heap.size 41 [.int .i64 (x0 : Int), .int .i64 (y0 : Int), .int .i64 (z0 : Int), .int .i64 (x1 : Int), .int .i64 (y1 : Int), .int .i64 (z1 : Int)]) := hide (vb_new w 41 _ _ rfl)
 have HT0 : Hid (Tw gf gb w (w.alloc (.cells #[.int .i64 (x0 : Int), .int .i64 (y0 : Int), .int .i64 (z0 : Int), .int .i64 (x1 : Int), .int .i64 (y1 : Int), .int .i64 (z1 : Int)] 41))) := hide (Tw.of_bel (ba (bfl _ _) _));have HC0 : Hid (CsM (w.alloc (.cells #[.int .i64 (x0 : Int), .int .i64 (y0 : Int), .int .i64 (z0 : Int), .int .i64 (x1 : Int), .int .i64 (y1 : Int), .int .i64 (z1 : Int)] 41)) gf gb (filP b v n c (z0 * 576))) := hide (by rw [← zu HBT]; exact hc.bel (ba (bfl _ _) _));have k2 := (zu HV0).cell (m := 2) rfl;clear hg hc h1 h2 h3 hgl hgfl hgbl q1 q2
 go_enter Tryz.func111, Tryz.ntmps111;go_wp2_with fail;clear k2
 go_loopw [8] (fun s W => ∃ z : Nat, s = .int .i64 (z : Int) ∧ z0 ≤ z ∧ z ≤ z1 ∧ CsM W gf gb (filP b v n c (z * 576)) ∧ Tw gf gb w W ∧ vb W w.heap.size 41 [.int .i64 (x0 : Int), .int .i64 (y0 : Int), .int .i64 (z0 : Int), .int .i64 (x1 : Int), .int .i64 (y1 : Int), .int .i64 (z1 : Int)]) (fun s _ => z1 - (intOf s).toNat)
 case atStart => exact ⟨z0, rfl, Nat.le_refl _, by omega, zu HC0, zu HT0, zu HV0⟩
 case round =>
  obtain ⟨z, rfl, hz3, hz4, hcs, htw, hvb⟩ := hrel;have HCZ := hide hcs;have HTZ := hide htw;have HVZ := hide hvb;have k1 := hvb.cell (m := 1) rfl;have k5 := hvb.cell (m := 5) rfl;clear hcs htw hvb
  by_cases h : z < z1
  ·have iz : decide ((z : Int) < (z1 : Int)) = true := dt (by omega)
   have i1 : (z : Int) < (z1 : Int) := by omega
   have wz : IntKind.i64.wrap ((z : Int) + 1) = ((z + 1 : Nat) : Int) := (wrap_i (by omega) (by omega)).trans (by simp);have HCY := hide (zu HCZ);rw [zu HLL z] at HCY;go_wp2_with fail;clear k1 k5
   go_loopw [9] (fun s W => ∃ y : Nat, s = .int .i64 (y : Int) ∧ y0 ≤ y ∧ y ≤ y1 ∧ CsM W gf gb (filP b v n c ((z * 24 + y) * 24)) ∧ Tw gf gb w W ∧ vb W w.heap.size 41 [.int .i64 (x0 : Int), .int .i64 (y0 : Int), .int .i64 (z0 : Int), .int .i64 (x1 : Int), .int .i64 (y1 : Int), .int .i64 (z1 : Int)]) (fun s _ => y1 - (intOf s).toNat)
   case atStart => exact ⟨y0, rfl, Nat.le_refl _, by omega, zu HCY, zu HTZ, zu HVZ⟩
   case round =>
    clear HCY HCZ HTZ HVZ;obtain ⟨y, rfl, hy3, hy4, hcs, htw, hvb⟩ := hrel;have HCY := hide hcs;have HTY := hide htw;have HVY := hide hvb;have k0 := hvb.cell (m := 0) rfl;have k4 := hvb.cell (m := 4) rfl;clear hcs htw hvb
    by_cases h' : y < y1
    ·have jz : decide ((y : Int) < (y1 : Int)) = true := dt (by omega)
     have j1 : (y : Int) < (y1 : Int) := by omega
     have wy : IntKind.i64.wrap ((y : Int) + 1) = ((y + 1 : Nat) : Int) := (wrap_i (by omega) (by omega)).trans (by simp);have HCX := hide (zu HCY);rw [zu HRL y z] at HCX;go_wp2_with fail;clear k0 k4
     go_loopw [10] (fun s W => ∃ x : Nat, s = .int .i64 (x : Int) ∧ x0 ≤ x ∧ x ≤ x1 ∧ CsM W gf gb (filP b v n c ((z * 24 + y) * 24 + x)) ∧ Tw gf gb w W ∧ vb W w.heap.size 41 [.int .i64 (x0 : Int), .int .i64 (y0 : Int), .int .i64 (z0 : Int), .int .i64 (x1 : Int), .int .i64 (y1 : Int), .int .i64 (z1 : Int)]) (fun s _ => x1 - (intOf s).toNat)
     case atStart => exact ⟨x0, rfl, Nat.le_refl _, by omega, zu HCX, zu HTY, zu HVY⟩
     case round =>
      clear HCX HCY HTY HVY;obtain ⟨x, rfl, hx3, hx4, hcs, htw, hvb⟩ := hrel;have HCX := hide hcs;have HTX := hide htw;have HVX := hide hvb;have k3 := hvb.cell (m := 3) rfl
      by_cases h'' : x < x1
      ·have lz : decide ((x : Int) < (x1 : Int)) = true := dt (by omega)
       have l1 : (x : Int) < (x1 : Int) := by omega
       have wx : IntKind.i64.wrap ((x : Int) + 1) = ((x + 1 : Nat) : Int) := (wrap_i (by omega) (by omega)).trans (by simp);have hin := zu HB x y z hx3 h'' hy3 h' hz3 h;have HST := hide (zu HIN _ hin);have HAT := hide (fun W => mAt_any x y z W (by omega) (by omega) (by omega));have hK : at3 x y z < 13824 := at3_lt (by omega) (by omega) (by omega);have eK : (z * 24 + y) * 24 + x = at3 x y z := rfl;have eK1 : (z * 24 + y) * 24 + (x + 1) = at3 x y z + 1 := rfl;rw [eK] at HST HCX;have HE1 := hide eK1;clear hin eK1 hcs htw hvb;generalize at3 x y z = K at *
       have kg2 := (zu HNB _ (zu HTX)).cell (m := 2) rfl;have kg3 := (zu HNB _ (zu HTX)).cell (m := 3) rfl;have cf := (zu HCX).cf hK;have cb := (zu HCX).cb hK;have ff := (zu HCX).f.frozen K;have fb := (zu HCX).b.frozen K;have K0 : (0 : Int) ≤ (K : Int) := Int.natCast_nonneg _;have K1 : (K : Int) < 13824 := by omega
       have kz : decide ((K : Int) < 13824) = true := dt K1
       have hp : ∃ d, d = filP b v n c K := ⟨_, rfl⟩
       obtain ⟨dK, hdK⟩ := hp;rw [← hdK] at HST HCX cf cb;clear hdK;generalize hfk : dK.full K = fk at *;generalize hyk : dK.by_ K = yk at *;have HFK := hide hfk;clear hfk hyk
       by_cases hv : fk = v
       ·have d1 : (fk != v) = false := by simp [hv]
        have d2 : (!(fk == v)) = false := by simp [hv]
        have HCN : Hid (CsM wr gf gb (filP b v n c (K + 1))) := hide (by rw [(zu HST).1 hv]; exact zu HCX);clear hv;go_wp2_with fail;refine (zu HAT _).mono ?_;rintro e W4 ⟨rfl, rfl⟩;go_wp2_with fail;go_roundw
        case rel => exact ⟨x + 1, by simp, by omega, h'', by rw [zu HE1]; exact zu HCN, zu HTX, zu HVX⟩
        case measure => simp only [intOf]; omega
       ·have d1 : (fk != v) = true := by simp [hv]
        have d2 : (!(fk == v)) = true := by simp [hv]
        have hst := (zu HST).2 hv;have HCN := hide (CsM.put (zu HCX) (zu H3) K v n hst.1 hst.2);have HTN := hide (Tw.set (Tw.set (zu HTX) (.inl rfl) K (.bool v)) (.inr rfl) K (.int .i64 (n : Int)));have HVN := hide (((zu HVX).ne (g' := gf) (o := K) (x := .bool v) (zu HQ).1).ne (g' := gb) (o := K) (x := .int .i64 (n : Int)) (zu HQ).2);have kg3' := ((zu HNB _ (Tw.set (zu HTX) (.inl rfl) K (.bool v)))).cell (m := 3) rfl;have cb' := ((zu HCX).b.ne (g' := gf) (o := K) (x := .bool v) (fun e => zu H3 e.symm)).cell (fnL_at _ hK)
        have fb' := ((zu HCX).b.ne (g' := gf) (o := K) (x := .bool v) (fun e => zu H3 e.symm)).frozen K;clear hv hst;go_wp2_with fail;refine (zu HAT _).mono ?_;rintro e W4 ⟨rfl, rfl⟩;go_wp2_with fail;go_roundw
        case rel => exact ⟨x + 1, by simp, by omega, h'', by rw [zu HE1]; exact zu HCN, zu HTN, zu HVN⟩
        case measure => simp only [intOf]; omega
      ·have lz : decide ((x : Int) < (x1 : Int)) = false := df (by omega)
       have l1 : ¬ (x : Int) < (x1 : Int) := by omega
       obtain rfl : x = x1 := by omega
       have HCE := hide hcs;rw [zu HRW y z (by omega)] at HCE;clear hcs htw hvb;go_wp2_with fail;go_roundw
       case rel => exact ⟨y + 1, by simp, by omega, h', zu HCE, zu HTX, zu HVX⟩
       case measure => simp only [intOf]; omega
    ·have jz : decide ((y : Int) < (y1 : Int)) = false := df (by omega)
     have j1 : ¬ (y : Int) < (y1 : Int) := by omega
     obtain rfl : y = y1 := by omega
     have HCE := hide (zu HCY);rw [zu HLY z] at HCE;go_wp2_with fail;go_roundw
     case rel => exact ⟨z + 1, by simp, by omega, h, zu HCE, zu HTY, zu HVY⟩
     case measure => simp only [intOf]; omega
  ·have iz : decide ((z : Int) < (z1 : Int)) = false := df (by omega)
   have i1 : ¬ (z : Int) < (z1 : Int) := by omega
   obtain rfl : z = z1 := by omega
   have HCE := hide (zu HCZ);rw [zu HTP] at HCE;go_wp2_with fail
   go_end0
   exact ⟨rfl, zu HCE, zu HTZ⟩
noncomputable def rg114 (id : Nat) : Go.Code := match Tryz.f112.body with | some c => (regOfZ id c).getD .skip | none => .skip
theorem sq22 {s1 s2 s3 s9 s10 s11 s12 s13 s14 s15 s16 s17 s18 s19 s20 s21 s22 s23 s24 s25 s26 s27 s28 s29 s30 s31 s32 s33 s34 s35 s36 s37 s38 s39 s40 s41 s42 s43 s44 s45 s46 s47 s48 s49 s50 s51 s52 s53 s54 s55 s56 s57 s58 s59 s60 s61 s62 s63 s64 s65 s66 s67 s68 s69 s70 s71 s72 s73 s74 s75 s76 s77 s78 s79 s80 s81 s82 s83 s84 s85 s86 s87 s88 s89 s90 s91 s92 s93 s94 s95 s96 s97 s98 s99 s100 s101 s102 s103 s104 s105 s106 s107 s108 : Value} {g gb cb z y x kk sd yk : Nat} {f0 f1 f2 f3 f4 f5 : Int} {V : World} {K_ : Act → World → Prop}
  (HG3 : Hid (V.cell? ⟨g, 3, none⟩ = some (.slice (some ⟨gb, 0, none⟩) 13824 cb))) (HGB : Hid (V.cell? ⟨gb, kk, none⟩ = some (.int .i64 (yk : Int))))
  (HX5 : Hid (kk < 13824))
  (HF12 : Hid (∀ Xw, Below V.heap.size V Xw → Calls Tryz.prog 145 #[.int .i64 (x : Int), .int .i64 (y : Int), .int .i64 (z : Int), .int .i64 (sd : Int)] Xw fun e w' => e = .returned (.agg #[.int .i64 (f0), .int .i64 (f1), .int .i64 (f2), .int .i64 (f3), .int .i64 (f4), .int .i64 (f5)]) ∧ Below Xw.heap.size Xw w'))
  (hQ : ∀ (n14 : Nat)  (W1 : World), Below V.heap.size V W1 → vb W1 n14 183 [.int .i64 (yk : Int), .int .i64 (sd : Int), .int .i64 (f0), .int .i64 (f1), .int .i64 (f2), .int .i64 (f3), .int .i64 (f4), .int .i64 (f5)] → V.heap.size ≤ n14 → K_ { tmps := #[.pointer (some ⟨g, 0, none⟩), s1, s2, s3, .int .i64 (z : Int), .int .i64 (y : Int), .int .i64 (x : Int), .int .i64 (kk : Int), .int .i64 (sd : Int), s9, s10, s11, s12, s13, .pointer (some ⟨n14, 0, none⟩), s15, s16, s17, s18, s19, s20, s21, s22, s23, s24, s25, s26, s27, s28, s29, s30, s31, s32, s33, s34, s35, s36, s37, s38, s39, s40, s41, s42, s43, s44, s45, s46, s47, s48, s49, s50, s51, s52, s53, s54, s55, s56, s57, s58, s59, s60, s61, s62, s63, s64, s65, s66, s67, s68, s69, s70, s71, s72, s73, s74, s75, s76, s77, s78, s79, s80, s81, s82, s83, .pointer (some ⟨g, 0, none⟩), .pointer (some ⟨g, 0, none⟩), .pointer (some ⟨g, 3, none⟩), .slice (some ⟨gb, 0, none⟩) 13824 cb, .int .i64 (kk : Int), .pointer (some ⟨gb, kk, none⟩), .int .i64 (yk : Int), .int .i64 (sd : Int), .int .i64 (x : Int), .int .i64 (y : Int), .int .i64 (z : Int), .int .i64 (sd : Int), .agg #[.int .i64 (f0), .int .i64 (f1), .int .i64 (f2), .int .i64 (f3), .int .i64 (f4), .int .i64 (f5)], .agg #[.int .i64 (yk : Int), .int .i64 (sd : Int), .int .i64 (f0), .int .i64 (f1), .int .i64 (f2), .int .i64 (f3), .int .i64 (f4), .int .i64 (f5)], s98, s99, s100, s101, s102, s103, s104, s105, s106, s107, s108], defers := [] } W1) :
  Go.Code.wp Tryz.prog (rg114 22) (Only K_) { tmps := #[.pointer (some ⟨g, 0, none⟩), s1, s2, s3, .int .i64 (z : Int), .int .i64 (y : Int), .int .i64 (x : Int), .int .i64 (kk : Int), .int .i64 (sd : Int), s9, s10, s11, s12, s13, s14, s15, s16, s17, s18, s19, s20, s21, s22, s23, s24, s25, s26, s27, s28, s29, s30, s31, s32, s33, s34, s35, s36, s37, s38, s39, s40, s41, s42, s43, s44, s45, s46, s47, s48, s49, s50, s51, s52, s53, s54, s55, s56, s57, s58, s59, s60, s61, s62, s63, s64, s65, s66, s67, s68, s69, s70, s71, s72, s73, s74, s75, s76, s77, s78, s79, s80, s81, s82, s83, s84, s85, s86, s87, s88, s89, s90, s91, s92, s93, s94, s95, s96, s97, s98, s99, s100, s101, s102, s103, s104, s105, s106, s107, s108], defers := [] } V := by
 have HQ := hide hQ;clear hQ
 conv => arg 2; whnf
 refine wp_region_inv2 (fun Lb A W => ∃ (u0 u1 u2 u3 u4 u5 u6 u7 u8 u9 u10 u11 u12 u13 u14 u15 : Bool) (n14 : Nat), Lb = #[u0, u1, u2, u3, u4, u5, u6, u7, u8, u9, u10, u11, u12, u13, u14, u15] ∧ A = ({ tmps := #[.pointer (some ⟨g, 0, none⟩), s1, s2, s3, .int .i64 (z : Int), .int .i64 (y : Int), .int .i64 (x : Int), .int .i64 (kk : Int), .int .i64 (sd : Int), s9, s10, s11, s12, s13, (bif u14 then .pointer (some ⟨n14, 0, none⟩) else s14), s15, s16, s17, s18, s19, s20, s21, s22, s23, s24, s25, s26, s27, s28, s29, s30, s31, s32, s33, s34, s35, s36, s37, s38, s39, s40, s41, s42, s43, s44, s45, s46, s47, s48, s49, s50, s51, s52, s53, s54, s55, s56, s57, s58, s59, s60, s61, s62, s63, s64, s65, s66, s67, s68, s69, s70, s71, s72, s73, s74, s75, s76, s77, s78, s79, s80, s81, s82, s83, (bif u0 then .pointer (some ⟨g, 0, none⟩) else s84), (bif u1 then .pointer (some ⟨g, 0, none⟩) else s85), (bif u2 then .pointer (some ⟨g, 3, none⟩) else s86), (bif u3 then .slice (some ⟨gb, 0, none⟩) 13824 cb else s87), (bif u4 then .int .i64 (kk : Int) else s88), (bif u5 then .pointer (some ⟨gb, kk, none⟩) else s89), (bif u6 then .int .i64 (yk : Int) else s90), (bif u7 then .int .i64 (sd : Int) else s91), (bif u8 then .int .i64 (x : Int) else s92), (bif u9 then .int .i64 (y : Int) else s93), (bif u10 then .int .i64 (z : Int) else s94), (bif u11 then .int .i64 (sd : Int) else s95), (bif u12 then .agg #[.int .i64 (f0), .int .i64 (f1), .int .i64 (f2), .int .i64 (f3), .int .i64 (f4), .int .i64 (f5)] else s96), (bif u13 then .agg #[.int .i64 (yk : Int), .int .i64 (sd : Int), .int .i64 (f0), .int .i64 (f1), .int .i64 (f2), .int .i64 (f3), .int .i64 (f4), .int .i64 (f5)] else s97), s98, s99, s100, s101, s102, s103, s104, s105, s106, s107, s108], defers := [] } : Act) ∧ Below V.heap.size V W ∧ (u14 = true → vb W n14 183 (bif u15 then [.int .i64 (yk : Int), .int .i64 (sd : Int), .int .i64 (f0), .int .i64 (f1), .int .i64 (f2), .int .i64 (f3), .int .i64 (f4), .int .i64 (f5)] else [.int .i64 (0), .int .i64 (0), .int .i64 (0), .int .i64 (0), .int .i64 (0), .int .i64 (0), .int .i64 (0), .int .i64 (0)]) ∧ V.heap.size ≤ n14) ∧ (u15 = true → u0 = true ∧ u1 = true ∧ u2 = true ∧ u3 = true ∧ u4 = true ∧ u5 = true ∧ u6 = true ∧ u7 = true ∧ u8 = true ∧ u9 = true ∧ u10 = true ∧ u11 = true ∧ u12 = true ∧ u13 = true ∧ u14 = true)) (by kernel_rfl) (by kernel_rfl) ?h0 ?hstep ?hend
 case h0 =>
  exact ⟨false, false, false, false, false, false, false, false, false, false, false, false, false, false, false, false, 0, rfl, rfl, Below.drew (bfl _ _), zf, zf⟩
 case hstep =>
  intro Lb A W hI;obtain ⟨u0, u1, u2, u3, u4, hI⟩ := hI;obtain ⟨u5, u6, u7, u8, u9, hI⟩ := hI;obtain ⟨u10, u11, u12, u13, u14, hI⟩ := hI;obtain ⟨u15, n14, hI⟩ := hI;obtain ⟨hLb, hI⟩ := hI;obtain ⟨hA, hI⟩ := hI;obtain ⟨kB, hI⟩ := hI;obtain ⟨k14, hI⟩ := hI;have kF := hI;clear hI;subst hLb;subst hA;replace kB := hide kB;replace k14 := hide k14;replace kF := hide kF;refine ⟨?_, ?_, ?_, ?_, ?_, ?_, ?_, ?_, ?_, ?_, ?_, ?_, ?_, ?_, ?_, ?_, trivial⟩
  ·intro h0 hd K hK
   have z : u0 = false := h0;have z15_ : u15 = false := znb fun hu => z.symm.trans ((zu kF hu).1)
   subst z15_;subst z;clear h0 hd;rw [if_pos (by rfl)];go_simp;exact zu hK _ _ ⟨true, u1, u2, u3, u4, u5, u6, u7, u8, u9, u10, u11, u12, u13, u14, false, n14, rfl, rfl, zu kB, zu k14, zf⟩
  ·intro h0 hd K hK
   have z : u1 = false := h0;have z15_ : u15 = false := znb fun hu => z.symm.trans ((zu kF hu).2.1)
   obtain ⟨rfl⟩ : u0 = true := by simp [Region.binds] at hd; simp [hd]
   subst z15_;subst z;clear h0 hd;rw [if_pos (by rfl)];go_simp;exact zu hK _ _ ⟨true, true, u2, u3, u4, u5, u6, u7, u8, u9, u10, u11, u12, u13, u14, false, n14, rfl, rfl, zu kB, zu k14, zf⟩
  ·intro h0 hd K hK
   have z : u2 = false := h0;have z15_ : u15 = false := znb fun hu => z.symm.trans ((zu kF hu).2.2.1)
   obtain ⟨rfl⟩ : u1 = true := by simp [Region.binds] at hd; simp [hd]
   subst z15_;subst z;clear h0 hd;rw [if_pos (by rfl)];go_simp;exact zu hK _ _ ⟨u0, true, true, u3, u4, u5, u6, u7, u8, u9, u10, u11, u12, u13, u14, false, n14, rfl, rfl, zu kB, zu k14, zf⟩
  ·intro h0 hd K hK
   have z : u3 = false := h0;have z15_ : u15 = false := znb fun hu => z.symm.trans ((zu kF hu).2.2.2.1)
   obtain ⟨rfl⟩ : u2 = true := by simp [Region.binds] at hd; simp [hd]
   subst z15_;subst z;clear h0 hd;rw [if_pos (by rfl)];have c0 := keep1 (zu kB) (zu HG3);go_simp;exact zu hK _ _ ⟨u0, u1, true, true, u4, u5, u6, u7, u8, u9, u10, u11, u12, u13, u14, false, n14, rfl, rfl, zu kB, zu k14, zf⟩
  ·intro h0 hd K hK
   have z : u4 = false := h0;have z15_ : u15 = false := znb fun hu => z.symm.trans ((zu kF hu).2.2.2.2.1)
   subst z15_;subst z;clear h0 hd;rw [if_pos (by rfl)];go_simp;exact zu hK _ _ ⟨u0, u1, u2, u3, true, u5, u6, u7, u8, u9, u10, u11, u12, u13, u14, false, n14, rfl, rfl, zu kB, zu k14, zf⟩
  ·intro h0 hd K hK
   have z : u5 = false := h0;have z15_ : u15 = false := znb fun hu => z.symm.trans ((zu kF hu).2.2.2.2.2.1)
   obtain ⟨rfl, rfl⟩ : u3 = true ∧ u4 = true := by simp [Region.binds] at hd; simp [hd]
   subst z15_;subst z;clear h0 hd;rw [if_pos (by rfl)];have q1 : kk < 13824 := zu HX5;have q2 : (kk : Int) < (13824 : Int) := by omega
   go_simp;exact zu hK _ _ ⟨u0, u1, u2, true, true, true, u6, u7, u8, u9, u10, u11, u12, u13, u14, false, n14, rfl, rfl, zu kB, zu k14, zf⟩
  ·intro h0 hd K hK
   have z : u6 = false := h0;have z15_ : u15 = false := znb fun hu => z.symm.trans ((zu kF hu).2.2.2.2.2.2.1)
   obtain ⟨rfl⟩ : u5 = true := by simp [Region.binds] at hd; simp [hd]
   subst z15_;subst z;clear h0 hd;rw [if_pos (by rfl)];have c0 := keep1 (zu kB) (zu HGB);go_simp;exact zu hK _ _ ⟨u0, u1, u2, u3, u4, true, true, u7, u8, u9, u10, u11, u12, u13, u14, false, n14, rfl, rfl, zu kB, zu k14, zf⟩
  ·intro h0 hd K hK
   have z : u7 = false := h0;have z15_ : u15 = false := znb fun hu => z.symm.trans ((zu kF hu).2.2.2.2.2.2.2.1)
   subst z15_;subst z;clear h0 hd;rw [if_pos (by rfl)];go_simp;exact zu hK _ _ ⟨u0, u1, u2, u3, u4, u5, u6, true, u8, u9, u10, u11, u12, u13, u14, false, n14, rfl, rfl, zu kB, zu k14, zf⟩
  ·intro h0 hd K hK
   have z : u8 = false := h0;have z15_ : u15 = false := znb fun hu => z.symm.trans ((zu kF hu).2.2.2.2.2.2.2.2.1)
   subst z15_;subst z;clear h0 hd;rw [if_pos (by rfl)];go_simp;exact zu hK _ _ ⟨u0, u1, u2, u3, u4, u5, u6, u7, true, u9, u10, u11, u12, u13, u14, false, n14, rfl, rfl, zu kB, zu k14, zf⟩
  ·intro h0 hd K hK
   have z : u9 = false := h0;have z15_ : u15 = false := znb fun hu => z.symm.trans ((zu kF hu).2.2.2.2.2.2.2.2.2.1)
   subst z15_;subst z;clear h0 hd;rw [if_pos (by rfl)];go_simp;exact zu hK _ _ ⟨u0, u1, u2, u3, u4, u5, u6, u7, u8, true, u10, u11, u12, u13, u14, false, n14, rfl, rfl, zu kB, zu k14, zf⟩
  ·intro h0 hd K hK
   have z : u10 = false := h0;have z15_ : u15 = false := znb fun hu => z.symm.trans ((zu kF hu).2.2.2.2.2.2.2.2.2.2.1)
   subst z15_;subst z;clear h0 hd;rw [if_pos (by rfl)];go_simp;exact zu hK _ _ ⟨u0, u1, u2, u3, u4, u5, u6, u7, u8, u9, true, u11, u12, u13, u14, false, n14, rfl, rfl, zu kB, zu k14, zf⟩
  ·intro h0 hd K hK
   have z : u11 = false := h0;have z15_ : u15 = false := znb fun hu => z.symm.trans ((zu kF hu).2.2.2.2.2.2.2.2.2.2.2.1)
   subst z15_;subst z;clear h0 hd;rw [if_pos (by rfl)];go_simp;exact zu hK _ _ ⟨u0, u1, u2, u3, u4, u5, u6, u7, u8, u9, u10, true, u12, u13, u14, false, n14, rfl, rfl, zu kB, zu k14, zf⟩
  ·intro h0 hd K hK
   have z : u12 = false := h0;have z15_ : u15 = false := znb fun hu => z.symm.trans ((zu kF hu).2.2.2.2.2.2.2.2.2.2.2.2.1)
   obtain ⟨rfl, rfl, rfl, rfl⟩ : u8 = true ∧ u9 = true ∧ u10 = true ∧ u11 = true := by simp [Region.binds] at hd; simp [hd]
   subst z15_;subst z;clear h0 hd;rw [if_pos (by rfl)];go_simp;refine (zu HF12 W (zu kB)).mono ?_;rintro e w8 ⟨rfl, hb8⟩;exact zu hK _ _ ⟨u0, u1, u2, u3, u4, u5, u6, u7, true, true, true, true, true, u13, u14, false, n14, rfl, rfl, bc (zu kB) hb8, (fun h => ⟨(zu k14 h).1.bel hb8, (zu k14 h).2⟩), zf⟩
  ·intro h0 hd K hK
   have z : u13 = false := h0;have z15_ : u15 = false := znb fun hu => z.symm.trans ((zu kF hu).2.2.2.2.2.2.2.2.2.2.2.2.2.1)
   obtain ⟨rfl, rfl, rfl⟩ : u6 = true ∧ u7 = true ∧ u12 = true := by simp [Region.binds] at hd; simp [hd]
   subst z15_;subst z;clear h0 hd;rw [if_pos (by rfl)];go_simp;exact zu hK _ _ ⟨u0, u1, u2, u3, u4, u5, true, true, u8, u9, u10, u11, true, true, u14, false, n14, rfl, rfl, zu kB, zu k14, zf⟩
  ·intro h0 hd K hK
   have z : u14 = false := h0;have z15_ : u15 = false := znb fun hu => z.symm.trans ((zu kF hu).2.2.2.2.2.2.2.2.2.2.2.2.2.2)
   subst z15_;subst z;clear h0 hd;rw [if_pos (by rfl)];go_simp;exact zu hK _ _ ⟨u0, u1, u2, u3, u4, u5, u6, u7, u8, u9, u10, u11, u12, u13, true, false, W.heap.size, rfl, rfl, ba (zu kB) _, (fun _ => ⟨vb_new W 183 _ _ rfl, (zu kB).size⟩), zf⟩
  ·intro h0 hd K hK
   have z : u15 = false := h0
   have zd0 : u0 = true ∧ u1 = true ∧ u2 = true ∧ u3 = true ∧ u4 = true ∧ u5 = true ∧ u6 = true ∧ u7 = true ∧ u8 = true ∧ u9 = true ∧ u10 = true ∧ u11 = true ∧ u12 = true ∧ u13 = true ∧ u14 = true := by
    simp [Region.binds] at hd;simp [hd]
   have zd : u0 = true ∧ u1 = true ∧ u2 = true ∧ u3 = true ∧ u4 = true ∧ u5 = true ∧ u6 = true ∧ u7 = true ∧ u8 = true ∧ u9 = true ∧ u10 = true ∧ u11 = true ∧ u12 = true ∧ u13 = true ∧ u14 = true := ⟨zd0.1, zd0.2.1, zd0.2.2.1, zd0.2.2.2.1, zd0.2.2.2.2.1, zd0.2.2.2.2.2.1, zd0.2.2.2.2.2.2.1, zd0.2.2.2.2.2.2.2.1, zd0.2.2.2.2.2.2.2.2.1, zd0.2.2.2.2.2.2.2.2.2.1, zd0.2.2.2.2.2.2.2.2.2.2.1, zd0.2.2.2.2.2.2.2.2.2.2.2.1, zd0.2.2.2.2.2.2.2.2.2.2.2.2.1, zd0.2.2.2.2.2.2.2.2.2.2.2.2.2.1, zd0.2.2.2.2.2.2.2.2.2.2.2.2.2.2⟩
   obtain ⟨rfl, rfl, rfl, rfl, rfl, rfl, rfl, rfl, rfl, rfl, rfl, rfl, rfl, rfl, rfl⟩ := zd;subst z;clear h0 hd;rw [if_pos (by rfl)];have v1 := (zu k14 rfl).1;have g9 := (zu k14 rfl).2;have fz := v1.frozen;have q0 := v1.cell (m := 0) rfl;have q1 := v1.cell (m := 1) rfl;have q2 := v1.cell (m := 2) rfl;have q3 := v1.cell (m := 3) rfl;have q4 := v1.cell (m := 4) rfl;have q5 := v1.cell (m := 5) rfl;have q6 := v1.cell (m := 6) rfl;have q7 := v1.cell (m := 7) rfl;have HV1 := hide v1;clear v1;go_simp
   exact zu hK _ _ ⟨true, true, true, true, true, true, true, true, true, true, true, true, true, true, true, true, n14, rfl, rfl, (((((((((((((((((zu kB)).setCell (p := ⟨n14, 0, none⟩) g9 _)).setCell (p := ⟨n14, 1, none⟩) g9 _)).setCell (p := ⟨n14, 2, none⟩) g9 _)).setCell (p := ⟨n14, 3, none⟩) g9 _)).setCell (p := ⟨n14, 4, none⟩) g9 _)).setCell (p := ⟨n14, 5, none⟩) g9 _)).setCell (p := ⟨n14, 6, none⟩) g9 _)).setCell (p := ⟨n14, 7, none⟩) g9 _), (fun _ => ⟨(((((((((zu HV1).set 0 _).set 1 _).set 2 _).set 3 _).set 4 _).set 5 _).set 6 _).set 7 _), g9⟩), (fun _ => ⟨rfl, rfl, rfl, rfl, rfl, rfl, rfl, rfl, rfl, rfl, rfl, rfl, rfl, rfl, rfl⟩)⟩
 case hend =>
  intro Lb A W hI;obtain ⟨u0, u1, u2, u3, u4, hI⟩ := hI;obtain ⟨u5, u6, u7, u8, u9, hI⟩ := hI;obtain ⟨u10, u11, u12, u13, u14, hI⟩ := hI;obtain ⟨u15, n14, hI⟩ := hI;obtain ⟨hLb, hI⟩ := hI;obtain ⟨hA, hI⟩ := hI;obtain ⟨kB, hI⟩ := hI;obtain ⟨k14, hI⟩ := hI;have kF := hI;clear hI;subst hLb;subst hA;intro hL
  have hl : u0 = true ∧ u1 = true ∧ u2 = true ∧ u3 = true ∧ u4 = true ∧ u5 = true ∧ u6 = true ∧ u7 = true ∧ u8 = true ∧ u9 = true ∧ u10 = true ∧ u11 = true ∧ u12 = true ∧ u13 = true ∧ u14 = true ∧ u15 = true := by
   have h2 := congrArg Array.toList hL
   simpa [List.replicate] using h2
  obtain ⟨rfl, rfl, rfl, rfl, rfl, rfl, rfl, rfl, rfl, rfl, rfl, rfl, rfl, rfl, rfl, rfl⟩ := hl;exact zu HQ n14  W kB (k14 rfl).1 (k14 rfl).2
end Go.Proofs.YtkiplmabjeadgaaGreat
