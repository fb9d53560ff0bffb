/- Maps keyed by boxes: which boxes are there. -/
import Derived.Test.YtkiplmabjeadgaaGreatInv3Q
import Derived.Test.YtkiplmabjeadgaaGreatBuMQ
import Derived.Test.YtkiplmabjeadgaaGreatBpR3Q
import Derived.Test.YtkiplmabjeadgaaGreatFdMQ
import Derived.Maps.OwnSet
import Derived.Maps.Ext
import Derived.DeepKeys3
namespace Go.Proofs.YtkiplmabjeadgaaGreat
set_option maxRecDepth 100000
set_option maxHeartbeats 16000000
open Go.ChangeShapes Go.WideShapes Go.ChangeAt Go.RowKit
set_option linter.unusedVariables false
set_option linter.unusedSimpArgs false
noncomputable def rg26 (id : Nat) : Go.Code := match Tryz.f26.body with | some c => (regOfZ id c).getD .skip | none => .skip
theorem ms15 {s0 s1 s3 s4 s5 s6 s7 s9 s10 s11 s13 s15 s16 s17 s18 s19 s20 s21 s22 s23 s24 s25 s26 s27 s28 s29 s30 s31 s32 s33 s34 s35 s36 s37 s38 s39 s40 s41 s42 s43 s44 s45 s46 s47 s48 s49 s50 s51 s52 s53 s54 s55 s56 s57 s58 s59 s60 s61 s62 s63 : Value} {gM gf x y z ax : Nat} {bf : Bool} {V : World} {K_ : Act → World → Prop}
  (HC0 : Hid (V.cell? ⟨gM, 2, none⟩ = some (.slice (some ⟨gf, 0, none⟩) 13824 13824))) (HE : Hid (V.cell? ⟨gf, ax, none⟩ = some (.bool (bf))))
  (HF7 : Hid (∀ Xw, Below V.heap.size V Xw → Calls Tryz.prog 57 #[.int .i64 (x : Int), .int .i64 (y : Int), .int .i64 (z : Int)] Xw fun e w' => e = .returned (.int .i64 (ax : Int)) ∧ Below Xw.heap.size Xw w'))
  (HX8 : Hid (ax < 13824))
  (hQ : ∀  (W1 : World), Below V.heap.size V W1 → K_ { tmps := #[s0, s1, .int .i64 (z : Int), s3, s4, s5, s6, s7, .pointer (some ⟨gM, 0, none⟩), s9, s10, s11, .int .i64 (y : Int), s13, .int .i64 (x : Int), s15, s16, s17, s18, s19, s20, s21, s22, s23, s24, s25, s26, s27, s28, s29, s30, s31, s32, s33, s34, s35, s36, s37, s38, s39, s40, s41, s42, s43, .pointer (some ⟨gM, 0, none⟩), .pointer (some ⟨gM, 0, none⟩), .pointer (some ⟨gM, 2, none⟩), .slice (some ⟨gf, 0, none⟩) 13824 13824, .int .i64 (x : Int), .int .i64 (y : Int), .int .i64 (z : Int), .int .i64 (ax : Int), .pointer (some ⟨gf, ax, none⟩), .bool (bf), s54, s55, s56, s57, s58, s59, s60, s61, s62, s63], defers := [] } W1) :
  Go.Code.wp Tryz.prog (rg26 15) (Only K_) { tmps := #[s0, s1, .int .i64 (z : Int), s3, s4, s5, s6, s7, .pointer (some ⟨gM, 0, none⟩), s9, s10, s11, .int .i64 (y : Int), s13, .int .i64 (x : Int), s15, s16, s17, s18, s19, s20, s21, s22, s23, s24, s25, s26, s27, s28, s29, s30, s31, s32, s33, s34, s35, s36, s37, s38, s39, s40, s41, s42, s43, s44, s45, s46, s47, s48, s49, s50, s51, s52, s53, s54, s55, s56, s57, s58, s59, s60, s61, s62, s63], defers := [] } V := by
 have HQ := hide hQ;clear hQ
 conv => arg 2; whnf
 refine wp_region_inv2 (fun Lb A W => ∃ (u0 u1 u2 u3 u4 u5 u6 u7 u8 u9 : Bool) (dm : Nat), Lb = #[u0, u1, u2, u3, u4, u5, u6, u7, u8, u9] ∧ A = ({ tmps := #[s0, s1, .int .i64 (z : Int), s3, s4, s5, s6, s7, .pointer (some ⟨gM, 0, none⟩), s9, s10, s11, .int .i64 (y : Int), s13, .int .i64 (x : Int), s15, s16, s17, s18, s19, s20, s21, s22, s23, s24, s25, s26, s27, s28, s29, s30, s31, s32, s33, s34, s35, s36, s37, s38, s39, s40, s41, s42, s43, (bif u0 then .pointer (some ⟨gM, 0, none⟩) else s44), (bif u1 then .pointer (some ⟨gM, 0, none⟩) else s45), (bif u2 then .pointer (some ⟨gM, 2, none⟩) else s46), (bif u3 then .slice (some ⟨gf, 0, none⟩) 13824 13824 else s47), (bif u4 then .int .i64 (x : Int) else s48), (bif u5 then .int .i64 (y : Int) else s49), (bif u6 then .int .i64 (z : Int) else s50), (bif u7 then .int .i64 (ax : Int) else s51), (bif u8 then .pointer (some ⟨gf, ax, none⟩) else s52), (bif u9 then .bool (bf) else s53), s54, s55, s56, s57, s58, s59, s60, s61, s62, s63], defers := [] } : Act) ∧ Below V.heap.size V W ∧ (u1 = true → u0 = true) ∧ (u2 = true → u1 = true) ∧ (u3 = true → u2 = true) ∧ (u7 = true → u4 = true ∧ u5 = true ∧ u6 = true) ∧ (u8 = true → u3 = true ∧ u7 = true) ∧ (u9 = true → u0 = true ∧ u1 = true ∧ u2 = true ∧ u3 = true ∧ u4 = true ∧ u5 = true ∧ u6 = true ∧ u7 = true ∧ u8 = true)) (by kernel_rfl) (by kernel_rfl) ?h0 ?hstep ?hend
 case h0 =>
  exact ⟨false, false, false, false, false, false, false, false, false, false, 0, rfl, rfl, Below.drew (bfl _ _), zf, zf, zf, zf, zf, zf⟩
 case hstep =>
  intro Lb A W hI;obtain ⟨u0, u1, u2, u3, u4, hI⟩ := hI;obtain ⟨u5, u6, u7, u8, u9, hI⟩ := hI;obtain ⟨dm, hI⟩ := hI;obtain ⟨hLb, hI⟩ := hI;obtain ⟨hA, hI⟩ := hI;obtain ⟨kB, hI⟩ := hI;obtain ⟨l1, hI⟩ := hI;obtain ⟨l2, hI⟩ := hI;obtain ⟨l3, hI⟩ := hI;obtain ⟨l7, hI⟩ := hI;obtain ⟨l8, hI⟩ := hI;have kF := hI;clear hI;subst hLb;subst hA;replace kB := hide kB;replace l1 := hide l1;replace l2 := hide l2;replace l3 := hide l3;replace l7 := hide l7;replace l8 := hide l8;replace kF := hide kF;refine ⟨?_, ?_, ?_, ?_, ?_, ?_, ?_, ?_, ?_, ?_, trivial⟩
  ·intro h0 hd K hK
   have z : u0 = false := h0;have z9_ : u9 = false := znb fun hu => z.symm.trans ((zu kF hu).1)
   subst z9_;subst z;clear h0 hd;rw [if_pos (by rfl)];go_simp;exact zu hK _ _ ⟨true, u1, u2, u3, u4, u5, u6, u7, u8, false, dm, rfl, rfl, zu kB, (fun h => rfl), zu l2, zu l3, zu l7, zu l8, zf⟩
  ·intro h0 hd K hK
   have z : u1 = false := h0;have z9_ : u9 = false := znb fun hu => z.symm.trans ((zu kF hu).2.1)
   obtain ⟨rfl⟩ : u0 = true := by simp [Region.binds] at hd; simp [hd]
   subst z9_;subst z;clear h0 hd;rw [if_pos (by rfl)];go_simp;exact zu hK _ _ ⟨true, true, u2, u3, u4, u5, u6, u7, u8, false, dm, rfl, rfl, zu kB, (fun _ => rfl), (fun h => rfl), zu l3, zu l7, zu l8, zf⟩
  ·intro h0 hd K hK
   have z : u2 = false := h0;have z9_ : u9 = false := znb fun hu => z.symm.trans ((zu kF hu).2.2.1)
   obtain ⟨rfl⟩ : u1 = true := by simp [Region.binds] at hd; simp [hd]
   subst z9_;subst z;clear h0 hd;rw [if_pos (by rfl)];go_simp;exact zu hK _ _ ⟨u0, true, true, u3, u4, u5, u6, u7, u8, false, dm, rfl, rfl, zu kB, zu l1, (fun _ => rfl), (fun h => rfl), zu l7, zu l8, zf⟩
  ·intro h0 hd K hK
   have z : u3 = false := h0;have z9_ : u9 = false := znb fun hu => z.symm.trans ((zu kF hu).2.2.2.1)
   obtain ⟨rfl⟩ : u2 = true := by simp [Region.binds] at hd; simp [hd]
   subst z9_;subst z;clear h0 hd;rw [if_pos (by rfl)];have c0 := keep1 (zu kB) (zu HC0);go_simp;exact zu hK _ _ ⟨u0, u1, true, true, u4, u5, u6, u7, u8, false, dm, rfl, rfl, zu kB, zu l1, zu l2, (fun _ => rfl), zu l7, (fun h => ⟨rfl, (zu l8 h).2⟩), zf⟩
  ·intro h0 hd K hK
   have z : u4 = false := h0;have z9_ : u9 = false := znb fun hu => z.symm.trans ((zu kF hu).2.2.2.2.1)
   subst z9_;subst z;clear h0 hd;rw [if_pos (by rfl)];go_simp;exact zu hK _ _ ⟨u0, u1, u2, u3, true, u5, u6, u7, u8, false, dm, rfl, rfl, zu kB, zu l1, zu l2, zu l3, (fun h => ⟨rfl, (zu l7 h).2.1, (zu l7 h).2.2⟩), zu l8, zf⟩
  ·intro h0 hd K hK
   have z : u5 = false := h0;have z9_ : u9 = false := znb fun hu => z.symm.trans ((zu kF hu).2.2.2.2.2.1)
   subst z9_;subst z;clear h0 hd;rw [if_pos (by rfl)];go_simp;exact zu hK _ _ ⟨u0, u1, u2, u3, u4, true, u6, u7, u8, false, dm, rfl, rfl, zu kB, zu l1, zu l2, zu l3, (fun h => ⟨(zu l7 h).1, rfl, (zu l7 h).2.2⟩), zu l8, zf⟩
  ·intro h0 hd K hK
   have z : u6 = false := h0;have z9_ : u9 = false := znb fun hu => z.symm.trans ((zu kF hu).2.2.2.2.2.2.1)
   subst z9_;subst z;clear h0 hd;rw [if_pos (by rfl)];go_simp;exact zu hK _ _ ⟨u0, u1, u2, u3, u4, u5, true, u7, u8, false, dm, rfl, rfl, zu kB, zu l1, zu l2, zu l3, (fun h => ⟨(zu l7 h).1, (zu l7 h).2.1, rfl⟩), zu l8, zf⟩
  ·intro h0 hd K hK
   have z : u7 = false := h0;have z9_ : u9 = false := znb fun hu => z.symm.trans ((zu kF hu).2.2.2.2.2.2.2.1)
   obtain ⟨rfl, rfl, rfl⟩ : u4 = true ∧ u5 = true ∧ u6 = true := by simp [Region.binds] at hd; simp [hd]
   subst z9_;subst z;clear h0 hd;rw [if_pos (by rfl)];go_simp;refine (zu HF7 W (zu kB)).mono ?_;rintro e w8 ⟨rfl, hb8⟩;exact zu hK _ _ ⟨u0, u1, u2, u3, true, true, true, true, u8, false, dm, rfl, rfl, bc (zu kB) hb8, zu l1, zu l2, zu l3, (fun _ => ⟨rfl, rfl, rfl⟩), (fun h => ⟨(zu l8 h).1, rfl⟩), zf⟩
  ·intro h0 hd K hK
   have z : u8 = false := h0;have z9_ : u9 = false := znb fun hu => z.symm.trans ((zu kF hu).2.2.2.2.2.2.2.2)
   obtain ⟨rfl, rfl⟩ : u3 = true ∧ u7 = true := by simp [Region.binds] at hd; simp [hd]
   subst z9_;subst z;clear h0 hd;rw [if_pos (by rfl)];have q1 : ax < 13824 := zu HX8;have q2 : (ax : Int) < (13824 : Int) := by omega
   go_simp;exact zu hK _ _ ⟨u0, u1, u2, true, u4, u5, u6, true, true, false, dm, rfl, rfl, zu kB, zu l1, zu l2, zu l3, zu l7, (fun _ => ⟨rfl, rfl⟩), zf⟩
  ·intro h0 hd K hK
   have z : u9 = false := h0
   have zd0 : u8 = true := by
    simp [Region.binds] at hd;simp [hd]
   have zd : u8 = true ∧ u0 = true ∧ u1 = true ∧ u2 = true ∧ u3 = true ∧ u4 = true ∧ u5 = true ∧ u6 = true ∧ u7 = true := ⟨zd0, (zu l1 (zu l2 (zu l3 (zu l8 zd0).1))), (zu l2 (zu l3 (zu l8 zd0).1)), (zu l3 (zu l8 zd0).1), (zu l8 zd0).1, (zu l7 (zu l8 zd0).2).1, (zu l7 (zu l8 zd0).2).2.1, (zu l7 (zu l8 zd0).2).2.2, (zu l8 zd0).2⟩
   obtain ⟨rfl, rfl, rfl, rfl, rfl, rfl, rfl, rfl, rfl⟩ := zd;subst z;clear h0 hd;rw [if_pos (by rfl)];have c0 := keep1 (zu kB) (zu HE);go_simp;exact zu hK _ _ ⟨true, true, true, true, true, true, true, true, true, true, dm, rfl, rfl, zu kB, (fun _ => rfl), (fun _ => rfl), (fun _ => rfl), (fun _ => ⟨rfl, rfl, rfl⟩), (fun _ => ⟨rfl, rfl⟩), (fun _ => ⟨rfl, rfl, rfl, rfl, rfl, rfl, rfl, rfl, rfl⟩)⟩
 case hend =>
  intro Lb A W hI;obtain ⟨u0, u1, u2, u3, u4, hI⟩ := hI;obtain ⟨u5, u6, u7, u8, u9, hI⟩ := hI;obtain ⟨dm, hI⟩ := hI;obtain ⟨hLb, hI⟩ := hI;obtain ⟨hA, hI⟩ := hI;obtain ⟨kB, hI⟩ := hI;obtain ⟨l1, hI⟩ := hI;obtain ⟨l2, hI⟩ := hI;obtain ⟨l3, hI⟩ := hI;obtain ⟨l7, hI⟩ := hI;obtain ⟨l8, hI⟩ := hI;have kF := hI;clear hI;subst hLb;subst hA;intro hL
  have hl : u0 = true ∧ u1 = true ∧ u2 = true ∧ u3 = true ∧ u4 = true ∧ u5 = true ∧ u6 = true ∧ u7 = true ∧ u8 = true ∧ u9 = true := by
   have h2 := congrArg Array.toList hL
   simpa [List.replicate] using h2
  obtain ⟨rfl, rfl, rfl, rfl, rfl, rfl, rfl, rfl, rfl, rfl⟩ := hl;exact zu HQ   W kB
def u8s (L : List Int) : List Value := L.map (.int .u8)
theorem u8s_take {c : Cs} {y z x : Nat} (h : x < 24) : u8s ((rowL c y z).take (x + 1)) = u8s ((rowL c y z).take x) ++ [.int .u8 (sgB (c.full (at3 x y z)))] := by
 rw [List.take_add_one, rowL_at c y z h];simp [u8s]
theorem strs_takeS {c : Cs} {y z : Nat} (h : y < 24) : strs ((sect c z).take (y + 1)) = strs ((sect c z).take y) ++ strs [txB (rowL c y z)] := by
 rw [sect_take c z h];simp [strs]
theorem sectM_any (u : Option Addr) (p po n cu : Nat) (fs : List Ft) (uf : Option Addr) (mf cf : Nat) (off : List ByteArray) (z : Int) (w : World) (hl : fs.length = n) (hn : n ≤ 1048576) (hcu : n ≤ cu) (hs : ∀ f ∈ fs, f.nm.size ≤ maxLen ∧ f.on.size ≤ maxLen ∧ f.ov.size ≤ maxLen) (hu : SlG ftc 15 w u p po fs)
  (hof : off.length = mf) (hmf : mf ≤ 1048576) (hst : StAt w uf off) :
  Calls Tryz.prog 26 #[.slice u n cu, .slice uf mf cf, .int .i64 z] w fun e w' => (∃ v c rows, e = .returned (.tuple #[v, .int .i64 c]) ∧ ScAns fs off z c rows ∧ SRow w' w.heap.size v rows) ∧ Below w.heap.size w w' := by
 obtain ⟨iT, ht, hx0, hx1, hx2⟩ := info_parts info9;obtain ⟨iB, hb5, hy0, hy1, hy2⟩ := info_parts info5;have HBU := hide (buildM_any u p po n cu fs uf mf cf off w hl hn hcu hs hu hof hmf hst);clear hl hs hu hof hst;go_enter Tryz.func26, Tryz.ntmps26;go_wp2_with fail;refine (zu HBU).mono ?_;rintro e W1 ⟨⟨c, ab, D, v, v3, rfl, hbu, hsr, hD⟩, hb⟩;have HB := hide hb;have HBQ := hide hbu;have HDD := hide hD;clear hb hbu hsr hD HBU
 by_cases hc : c = 0
 rotate_left
 ·have hc' : (c == 0) = false := by simpa using hc
  have HE := hide (show (∃ v c2 rows, Ending.returned (.tuple #[.slice (some ⟨W1.heap.size, 0, none⟩) 0 0, .int .i64 c]) = .returned (.tuple #[v, .int .i64 c2]) ∧ ScAns fs off z c2 rows ∧ SRow (W1.alloc (.cells #[] 9)) w.heap.size v rows) ∧ Below w.heap.size w (W1.alloc (.cells #[] 9)) from
    ⟨⟨_, c, [], rfl, ⟨c, ab, D, zu HBQ, .inl ⟨hc, rfl, rfl⟩⟩, own_made W1 9 w.heap.size 1 (zu HB).size _ rfl⟩, ba (zu HB) _⟩)
  clear hc HDD;go_wp2_with fail;refine bodyPost_ret (v := .tuple #[.slice (some ⟨W1.heap.size, 0, none⟩) 0 0, .int .i64 c]) (by simp [results, Tryz.results26, go_sem]; done) rfl ?_;exact zu HE
 subst hc
 by_cases hz : 0 ≤ z ∧ z ≤ 23
 rotate_left
 ·have HE := hide (show (∃ v c2 rows, Ending.returned (.tuple #[.slice (some ⟨W1.heap.size, 0, none⟩) 0 0, .int .i64 5]) = .returned (.tuple #[v, .int .i64 c2]) ∧ ScAns fs off z c2 rows ∧ SRow (W1.alloc (.cells #[] 9)) w.heap.size v rows) ∧ Below w.heap.size w (W1.alloc (.cells #[] 9)) from
     ⟨⟨_, 5, [], rfl, ⟨0, ab, D, zu HBQ, .inr (.inl ⟨rfl, hz, rfl, rfl⟩)⟩, own_made W1 9 w.heap.size 1 (zu HB).size _ rfl⟩, ba (zu HB) _⟩)
  by_cases h0 : z < 0
  ·have a1 : decide (z < 0) = true := dt h0
   clear HDD hz;go_wp2_with fail;refine bodyPost_ret (v := .tuple #[.slice (some ⟨W1.heap.size, 0, none⟩) 0 0, .int .i64 5]) (by simp [results, Tryz.results26, go_sem]; done) rfl ?_;exact zu HE
  ·have a1 : decide (z < 0) = false := df h0
   have a2 : decide ((24 : Int) ≤ z) = true := dt (by omega);clear HDD hz;go_wp2_with fail;refine bodyPost_ret (v := .tuple #[.slice (some ⟨W1.heap.size, 0, none⟩) 0 0, .int .i64 5]) (by simp [results, Tryz.results26, go_sem]; done) rfl ?_;exact zu HE
 obtain ⟨k, rfl⟩ : ∃ k : Nat, z = (k : Int) := ⟨z.toNat, by omega⟩
 have hk : k < 24 := by omega
 have a1 : decide ((k : Int) < 0) = false := df (by omega);have a2 : decide ((24 : Int) ≤ (k : Int)) = false := df (by omega);obtain ⟨D', hD'⟩ := (zu HBQ).zero;obtain ⟨hF, hok, hdl, g, gf, gb, B, ud, cd, uo, co, rfl, hmd, hge, hlt, hne⟩ := zu HDD D' hD';have HEND := hide (show ScAns fs off (k : Int) 0 (sect D'.cs k) from ⟨0, ab, D, zu HBQ, .inr (.inr ⟨rfl, hz, rfl, D', hD', by rw [Int.toNat_natCast]⟩)⟩);have HMD := hide hmd;have HLK := hide hk
 obtain ⟨c, hcc⟩ : ∃ c, D'.cs = c := ⟨_, rfl⟩
 rw [hcc] at HEND;have HCC := hide hcc;clear hF hok hdl hmd hge hlt hne HDD hD' hz hcc HBQ;go_wp2_with fail;have HO1 := hide (own_made W1 9 W1.heap.size 1 (Nat.le_refl _) _ rfl);have HC1 := hide (ba (bfl W1.heap.size W1) (.cells #[] 9))
 go_loopw [11, 12] (fun v s W => ∃ y : Nat, s = .int .i64 (y : Int) ∧ y ≤ 24 ∧ W.ownsRow W1.heap.size 9 1 v y (strs ((sect c k).take y)) ∧ Below W1.heap.size W1 W) (fun _ s _ => 24 - (intOf s).toNat)
 case atStart => exact ⟨0, rfl, Nat.zero_le _, zu HO1, zu HC1⟩
 case round =>
  obtain ⟨y, rfl, hy, hown, hb1⟩ := hrel;rename World => W2
  have HOW := hide hown;have HC2 := hide hb1;obtain ⟨uq, cq, rfl, _⟩ := own_form hown;clear hown hb1 HO1 HC1
  by_cases h : y < 24
  ·have i1 : (y : Int) < 24 := by omega
   have i0 : (0 : Int) ≤ (y : Int) := Int.natCast_nonneg _;have iz : decide ((y : Int) < 24) = true := dt i1;have wi : IntKind.i64.wrap ((y : Int) + 1) = ((y + 1 : Nat) : Int) := (wrap_i (by omega) (by omega)).trans (by simp);have HY := hide h;go_wp2_with fail;have HO3 := hide (own_made W2 5 (W2.heap.size) 1 (Nat.le_refl _) _ rfl);have HD3 := hide (ba (bfl W2.heap.size W2) (.cells #[] 5))
   go_loopw [13, 14] (fun v s W => ∃ x : Nat, s = .int .i64 (x : Int) ∧ x ≤ 24 ∧ W.ownsRow W2.heap.size 5 1 v x (u8s ((rowL c y k).take x)) ∧ Below W2.heap.size W2 W) (fun _ s _ => 24 - (intOf s).toNat)
   case atStart => exact ⟨0, rfl, Nat.zero_le _, zu HO3, zu HD3⟩
   case round =>
    clear HO3 HD3;obtain ⟨x, rfl, hx, hown, hbw⟩ := hrel;rename World => W3
    have HO3 := hide hown;have HB3 := hide hbw;obtain ⟨ur, cr, rfl, _⟩ := own_form hown;clear hown hbw
    by_cases h : x < 24
    ·have i1 : (x : Int) < 24 := by omega
     have i0 : (0 : Int) ≤ (x : Int) := Int.natCast_nonneg _;have iz : decide ((x : Int) < 24) = true := dt i1;have wi : IntKind.i64.wrap ((x : Int) + 1) = ((x + 1 : Nat) : Int) := (wrap_i (by omega) (by omega)).trans (by simp);have hmd := ((zu HMD).bel (zu HC2)).bel (zu HB3);have hy24 := zu HY;have hk24 := zu HLK;have hat : at3 x y k < 13824 := by unfold at3; omega
     have HCG := hide (hmd.blk.cell (m := 2) rfl);have HCF := hide (hmd.cs.f.cell (fnL_at _ hat));rw [zu HCC] at HCF;have HTK := hide (u8s_take (c := c) (y := y) (z := k) h);generalize c.full (at3 x y k) = bf at HCF HTK;clear hmd
     go_upto_region 15 with fail
     refine Go.Code.wp_mono (Only.to (fun _ _ h => h)) (ms15 HCG HCF (hide fun Xw _ => (mAt_any x y k Xw (by omega) (by omega) (by omega)).mono (by rintro e w' ⟨rfl, hw⟩; exact ⟨rfl, by first | exact hw | (rw [hw]; exact bfl _ _)⟩)) (hide hat) ?_);intro W4 hb4;have HB4 := hide ((zu HB3).trans (hb4.mono (zu HB3).size));have HO4 := hide (own_bel (zu HO3) hb4);clear hb4 hat HCG HCF HO3 HB3
     go_upto_if 53 with fail
     go_cut [15] (fun s wx => s = .int .u8 (sgB bf) ∧ wx = W4)
     case first =>
      cases bf with
      | true =>
       go_wp2_with fail
       go_meet
       case rel => exact ⟨rfl, rfl⟩
      | false =>
       go_wp2_with fail
       go_meet
       case rel => exact ⟨rfl, rfl⟩
     case rest =>
      obtain ⟨rfl, rfl⟩ := hcut;rename World => W4
      generalize sgB bf = sg at *
      go_wp2_with (at_builtin; refine zu ?_)
      refine hide ?_;refine wpList_append_own _ rfl _ _ 93 rfl W2.heap.size 5 iB _ 1 1 Tryz.underlying93 hb5 hy0 hy1 hy2 rfl (by decide) _ x _ rfl ((zu HO4).alloc _) _ 1 1 (u8s [sg]) rfl rfl (by first | exact news_cells _ _ rfl | exact news_cells _ _ (by simp)) (by intro u hu; simp only [u8s, List.map_cons, List.map_nil, List.mem_singleton] at hu; subst hu; rfl) (by unfold maxLen; omega) (by omega) (Nat.le_trans (zu HB4).size (by simp)) ?_;intro v' w1 hown' hgrow _
      have hbw1 : Below W2.heap.size W4 w1 := ((bfl _ _).alloc (zu HB4).size (.cells (u8s [sg]).toArray 5)).grown hgrow (Nat.le_trans (zu HB4).size (by simp)) (fun g hg => (own_ge (zu HO4) g hg).1)
      have hown2 : w1.ownsRow W2.heap.size 5 1 v' (x + 1) (u8s ((rowL c y k).take (x + 1))) := by
       rw [zu HTK];exact hown'
      have HO2 := hide hown2;have HBB := hide ((zu HB4).trans hbw1);clear hown' hgrow hown2 hbw1;go_wp2_with fail;go_roundw
      case rel => exact ⟨x + 1, by simp, h, zu HO2, zu HBB⟩
      case measure => simp only [intOf]; omega
    ·obtain rfl : x = 24 := by omega
     have iz : decide (((24 : Nat) : Int) < 24) = false := df (by omega);have hown := zu HO3;rw [List.take_of_length_le (by rw [rowL_len]; exact Nat.le_refl _)] at hown;obtain ⟨u8, c8, e8, _, _, h8⟩ := own_form hown
     injection e8 with e9 e10 e11
     subst e9;subst e11;obtain ⟨gq, rfl, hgq, _, hqc⟩ := h8 (by omega)
     have hcv := conv_tx W3 gq 0 24 cr (rowL c y k) (rowL_len c y k) (fun j q hj => by
      rw [Nat.zero_add]
      exact hqc j _ (by unfold u8s; rw [List.getElem?_map, hj]; rfl))
     have HC4 := hide ((zu HC2).trans ((zu HB3).mono (zu HC2).size));have HO4 := hide (own_bel (zu HOW) (zu HB3));have HTK := hide (strs_takeS (c := c) (z := k) (zu HY));generalize txB (rowL c y k) = tx at hcv HTK;clear hown hqc h8
     go_wp2_with (at_builtin; refine zu ?_)
     refine hide ?_;refine wpList_append_own _ rfl _ _ 23 rfl W1.heap.size 9 iT _ 1 16 Tryz.underlying23 ht hx0 hx1 hx2 rfl (by decide) _ y _ rfl ((zu HO4).alloc _) _ 1 1 (strs [tx]) rfl rfl (by first | exact news_cells _ _ rfl | exact news_cells _ _ (by simp)) (by intro u hu; simp only [strs, List.map_cons, List.map_nil, List.mem_singleton] at hu; subst hu; rfl) (by unfold maxLen; omega) (by omega) (Nat.le_trans (zu HC4).size (by simp)) ?_;intro v' w1 hown' hgrow _
     have hbw1 : Below W1.heap.size W3 w1 := ((bfl _ _).alloc (zu HC4).size (.cells (strs [tx]).toArray 9)).grown hgrow (Nat.le_trans (zu HC4).size (by simp)) (fun g hg => (own_ge (zu HO4) g hg).1)
     have hown2 : w1.ownsRow W1.heap.size 9 1 v' (y + 1) (strs ((sect c k).take (y + 1))) := by
      rw [zu HTK];exact hown'
     have HO2 := hide hown2;have HBB := hide ((zu HC4).trans hbw1);clear hown' hgrow hown2 hbw1;go_wp2_with fail;go_roundw
     case rel => exact ⟨y + 1, by simp, zu HY, zu HO2, zu HBB⟩
     case measure => simp only [intOf]; omega
  ·obtain rfl : y = 24 := by omega
   have iz : decide (((24 : Nat) : Int) < 24) = false := df (by omega);have hown := zu HOW;rw [sect_all] at hown;have HO4 := hide hown;clear hown;go_wp2_with fail;refine bodyPost_ret (v := .tuple #[.slice uq 24 cq, .int .i64 0]) (by simp [results, Tryz.results26, go_sem]; done) rfl ?_;exact ⟨⟨_, 0, _, rfl, zu HEND, by unfold SRow; rw [sect_len]; exact own_mono (zu HO4) (zu HB).size⟩, (zu HB).trans ((zu HC2).mono (zu HB).size)⟩
theorem atC_at (c : Cs) {x y z : Nat} (hx : x < 24) (hy : y < 24) (hz : z < 24) : atC c x y z = (c.full (at3 x y z), c.by_ (at3 x y z)) := by
 unfold atC;rw [if_pos (by omega)];simp
theorem atC_out (c : Cs) {x y z : Int} (h : ¬ ((0 ≤ x ∧ x ≤ 23) ∧ (0 ≤ y ∧ y ≤ 23) ∧ (0 ≤ z ∧ z ≤ 23))) : atC c x y z = (false, 0) := by
 unfold atC;rw [if_neg h]
theorem atC_self (c : Cs) {k : Nat} (hk : k < 13824) : atC c (cx k) (cy k) (cz k) = (c.full k, c.by_ k) := by
 rw [atC_at c (cx_lt k) (cy_lt k) (cz_lt hk), at3_c]
def bes (c : Cs) (k s : Nat) : Bool × Nat := match nbr k s with
 | none => (false, 0)
 | some m => (c.full m, c.by_ m)
theorem at_bes (c : Cs) {k s : Nat} (hk : k < 13824) (hs : 1 ≤ s ∧ s ≤ 6) : atC c ((cx k : Int) + (stp s).1) ((cy k : Int) + (stp s).2.1) ((cz k : Int) + (stp s).2.2) = bes c k s := by
 have h1 := cx_lt k;have h2 := cy_lt k;have h3 := cz_lt hk;have e := at3_c k
 have key : ∀ (x y z : Nat) (a b d : Int), (cx k : Int) + a = x → (cy k : Int) + b = y → (cz k : Int) + d = z → x < 24 → y < 24 → z < 24 → atC c ((cx k : Int) + a) ((cy k : Int) + b) ((cz k : Int) + d) = (c.full (at3 x y z), c.by_ (at3 x y z)) := by
  intro x y z a b d ha hb hd hx hy hz;rw [ha, hb, hd];exact atC_at c hx hy hz
 have : s = 1 ∨ s = 2 ∨ s = 3 ∨ s = 4 ∨ s = 5 ∨ s = 6 := by omega
 unfold at3 at e
 rcases this with rfl | rfl | rfl | rfl | rfl | rfl
 ·by_cases h : cx k = 0
  ·rw [atC_out c (by simp only [stp]; omega)]
   unfold bes;simp only [nbr, if_pos h]
  ·rw [key (cx k - 1) (cy k) (cz k) _ _ _ (by simp only [stp]; omega) (by simp only [stp]; omega) (by simp only [stp]; omega) (by omega) (by omega) (by omega)]
   unfold bes;simp only [nbr, if_neg h];rw [show at3 (cx k - 1) (cy k) (cz k) = k - 1 by unfold at3; omega]
 ·by_cases h : cx k = 23
  ·rw [atC_out c (by simp only [stp]; omega)]
   unfold bes;simp only [nbr, if_pos h]
  ·rw [key (cx k + 1) (cy k) (cz k) _ _ _ (by simp only [stp]; omega) (by simp only [stp]; omega) (by simp only [stp]; omega) (by omega) (by omega) (by omega)]
   unfold bes;simp only [nbr, if_neg h];rw [show at3 (cx k + 1) (cy k) (cz k) = k + 1 by unfold at3; omega]
 ·by_cases h : cy k = 0
  ·rw [atC_out c (by simp only [stp]; omega)]
   unfold bes;simp only [nbr, if_pos h]
  ·rw [key (cx k) (cy k - 1) (cz k) _ _ _ (by simp only [stp]; omega) (by simp only [stp]; omega) (by simp only [stp]; omega) (by omega) (by omega) (by omega)]
   unfold bes;simp only [nbr, if_neg h];rw [show at3 (cx k) (cy k - 1) (cz k) = k - 24 by unfold at3; omega]
 ·by_cases h : cy k = 23
  ·rw [atC_out c (by simp only [stp]; omega)]
   unfold bes;simp only [nbr, if_pos h]
  ·rw [key (cx k) (cy k + 1) (cz k) _ _ _ (by simp only [stp]; omega) (by simp only [stp]; omega) (by simp only [stp]; omega) (by omega) (by omega) (by omega)]
   unfold bes;simp only [nbr, if_neg h];rw [show at3 (cx k) (cy k + 1) (cz k) = k + 24 by unfold at3; omega]
 ·by_cases h : cz k = 0
  ·rw [atC_out c (by simp only [stp]; omega)]
   unfold bes;simp only [nbr, if_pos h]
  ·rw [key (cx k) (cy k) (cz k - 1) _ _ _ (by simp only [stp]; omega) (by simp only [stp]; omega) (by simp only [stp]; omega) (by omega) (by omega) (by omega)]
   unfold bes;simp only [nbr, if_neg h];rw [show at3 (cx k) (cy k) (cz k - 1) = k - 576 by unfold at3; omega]
 ·by_cases h : cz k = 23
  ·rw [atC_out c (by simp only [stp]; omega)]
   unfold bes;simp only [nbr, if_pos h]
  ·rw [key (cx k) (cy k) (cz k + 1) _ _ _ (by simp only [stp]; omega) (by simp only [stp]; omega) (by simp only [stp]; omega) (by omega) (by omega) (by omega)]
   unfold bes;simp only [nbr, if_neg h];rw [show at3 (cx k) (cy k) (cz k + 1) = k + 576 by unfold at3; omega]
theorem cmn_flt (k s : Nat) (hs : 1 ≤ s ∧ s ≤ 6) : cmn ⟨cx k, cy k, cz k, (cx k : Int) + 1, (cy k : Int) + 1, (cz k : Int) + 1⟩ ⟨(cx k : Int) + (stp s).1, (cy k : Int) + (stp s).2.1, (cz k : Int) + (stp s).2.2, (cx k : Int) + (stp s).1 + 1, (cy k : Int) + (stp s).2.1 + 1, (cz k : Int) + (stp s).2.2 + 1⟩ = flt k s := by
 have : s = 1 ∨ s = 2 ∨ s = 3 ∨ s = 4 ∨ s = 5 ∨ s = 6 := by omega
 unfold cmn
 rcases this with rfl | rfl | rfl | rfl | rfl | rfl <;> (simp only [flt, stp, Bx.mk.injEq]; omega)
theorem sqP_bes (c : Cs) (k s : Nat) : sqP c k s = if (bes c k s).1 = true then none else some (if c.by_ k < (bes c k s).2 then ⟨(bes c k s).2, opp s, flt k s⟩ else ⟨c.by_ k, s, flt k s⟩) := by
 unfold sqP bes
 cases nbr k s with
 | none => simp
 | some m => rfl
def sqe (q : Sq) : Array Value := #[.agg #[.int .i64 (q.nb : Int), .int .i64 (q.sd : Int)], bxv q.bx]
theorem sqPC_succ {c : Cs} {k : Nat} (h : c.full k = true) (n : Nat) : sqPC c k (n + 1) = sqPC c k n ++ (sqP c k (n + 1)).toList := by
 unfold sqPC;rw [if_pos h, if_pos h, List.range_succ, List.filterMap_append]
 congr 1
theorem sqPs_succ (c : Cs) (K : Nat) : sqPs c (K + 1) = sqPs c K ++ sqPC c K 6 := by simp [sqPs, List.range_succ]
theorem sqPC_empty {c : Cs} {k : Nat} (h : c.full k = false) (n : Nat) : sqPC c k n = [] := by unfold sqPC; rw [if_neg (by rw [h]; simp)]
theorem sqPC_mono {c : Cs} {k n m : Nat} (h : n ≤ m) : ∃ T, sqPC c k m = sqPC c k n ++ T := by
 by_cases hf : c.full k = true
 ·obtain ⟨d, rfl⟩ : ∃ d, m = n + d := ⟨m - n, by omega⟩
  clear h
  induction d with
  | zero => exact ⟨[], by simp⟩
  | succ d ih =>
   obtain ⟨T, hT⟩ := ih;exact ⟨T ++ (sqP c k (n + d + 1)).toList, by rw [← Nat.add_assoc, sqPC_succ hf, hT, List.append_assoc]⟩
 ·exact ⟨[], by rw [sqPC_empty (by simpa using hf), sqPC_empty (by simpa using hf)]; rfl⟩
theorem sqPs_mono {c : Cs} {K M : Nat} (h : K ≤ M) : ∃ T, sqPs c M = sqPs c K ++ T := by
 obtain ⟨d, rfl⟩ : ∃ d, M = K + d := ⟨M - K, by omega⟩
 clear h
 induction d with
 | zero => exact ⟨[], by simp⟩
 | succ d ih =>
  obtain ⟨T, hT⟩ := ih;exact ⟨T ++ sqPC c (K + d) 6, by rw [← Nat.add_assoc, sqPs_succ, hT, List.append_assoc]⟩
theorem sqPs_at {c : Cs} {k s : Nat} {q : Sq} (hk : k < 13824) (hf : c.full k = true) (hs : s < 6) (h : sqP c k (s + 1) = some q) : (sqPs c 13824)[(sqPs c k).length + (sqPC c k s).length]? = some q := by
 obtain ⟨T, hT⟩ := sqPs_mono (c := c) (K := k + 1) (M := 13824) (by omega);obtain ⟨T2, hT2⟩ := sqPC_mono (c := c) (k := k) (n := s + 1) (m := 6) (by omega);rw [hT, sqPs_succ, hT2, sqPC_succ hf, h, List.append_assoc, List.getElem?_append_right (by omega), Nat.add_sub_cancel_left, List.append_assoc, List.append_assoc, List.getElem?_append_right (by omega), Nat.sub_self];rfl
open Go.ChangeShapes Go.WideShapes Go.ChangeAt Go.RowKit Go.Maps Go.WideMaps
def keyB (b : Bx) : Lit := .string (keyBytes [.int .i64 b.x0, .int .i64 b.y0, .int .i64 b.z0, .int .i64 b.x1, .int .i64 b.y1, .int .i64 b.z1])
theorem ktype41 : Tryz.prog.keyType 41 = true := by kernel_rfl
theorem cellsOf41 : Tryz.prog.cellsOf 41 = 6 := by kernel_rfl
theorem tsize : ∃ m, Tryz.prog.types.size = m + 1 := ⟨Tryz.prog.types.size - 1, by
 have : 0 < Tryz.prog.types.size := by
  have h : (Tryz.prog.types.size == 0) = false := by kernel_rfl
  have h2 : ¬ Tryz.prog.types.size = 0 := fun e => by rw [e] at h; cases h
  omega
 omega⟩
theorem wf64 {a : Int} (h : -1000000 ≤ a ∧ a ≤ 1000000) : (Lit.int .i64 a).wf = true := by
 show (decide (IntKind.i64.min ≤ a) && decide (a ≤ IntKind.i64.max)) = true
 rw [Bool.and_eq_true, decide_eq_true_eq, decide_eq_true_eq];have h1 : IntKind.i64.min = -9223372036854775808 := by rfl
 have h2 : IntKind.i64.max = 9223372036854775807 := by rfl
 omega
theorem keyOf_bx {b : Bx} (h : bxS 1000000 b) : keyOf Tryz.prog 41 (bxv b) = some (keyB b) := by
 obtain ⟨m, hm⟩ := tsize;obtain ⟨w0, w1, w2, w3, w4, w5⟩ := h;have w0 := wf64 w0;have w1 := wf64 w1;have w2 := wf64 w2;have w3 := wf64 w3;have w4 := wf64 w4;have w5 := wf64 w5;unfold keyOf;simp only [Tryz.underlying41];rw [if_pos (by simp [ktype41, Value.formed, Tryz.underlying41, cellsOf41, bxv]), hm];unfold Program.keyLits;simp only [Tryz.underlying41, bxv, Value.cells];rw [if_pos (by simp [cellsOf41])];have c3 : Tryz.prog.cellsOf 3 = 1 := by kernel_rfl
 simp [c3, Program.keyLits, Tryz.underlying3, w0, w1, w2, w3, w4, w5, keyB]
theorem keyt41 : Tryz.prog.keyTypeAt 3 41 = true := by kernel_rfl
theorem tiled41 : Tryz.prog.tiled 3 41 = true := by kernel_rfl
theorem lawB : Keyed Tryz.prog 41 := Keyed.of_law (deep_law (m := 3) (by omega) keyt41 tiled41 (by kernel_rfl))
theorem bxv_inj {a b : Bx} (h : bxv a = bxv b) : a = b := by
 obtain ⟨a0, a1, a2, a3, a4, a5⟩ := a;obtain ⟨b0, b1, b2, b3, b4, b5⟩ := b;simp only [bxv, Value.agg.injEq, Array.mk.injEq, List.cons.injEq, Value.int.injEq, true_and, and_true] at h;obtain ⟨rfl, rfl, rfl, rfl, rfl, rfl⟩ := h;rfl
theorem keyB_inj {a b : Bx} (ha : bxS 1000000 a) (hb : bxS 1000000 b) (h : keyB a = keyB b) : a = b :=
 bxv_inj (lawB.inj (keyOf_bx ha) (by rw [keyOf_bx hb, h]))
theorem keyB_key (b : Bx) : WideAt.IsKeyLit (keyB b) := by
 unfold keyB;trivial
def DatS (D : DataW Unit) (S : Bx → Bool) : Prop := ∀ b, bxS 1000000 b → has D (keyB b) = S b
noncomputable def upS (S : Bx → Bool) (b : Bx) (c : Bx) : Bool := open Classical in if c = b then true else S c
noncomputable def dnS (S : Bx → Bool) (b : Bx) (c : Bx) : Bool := open Classical in if c = b then false else S c
theorem DatS.empty : DatS (.map []) fun _ => false := fun b _ => rfl
theorem DatS.put {D : DataW Unit} {S : Bx → Bool} (h : DatS D S) (hm : IsMap D) {b : Bx} (hb : bxS 1000000 b) (d : DataW Unit) : DatS (D.put (keyB b) d) (upS S b) := by
 intro c hc;unfold upS
 by_cases e : c = b
 ·subst e
  rw [if_pos rfl, has_put_same hm (keyB_key c)]
 ·rw [if_neg e, has_put_other (fun h => e (keyB_inj hc hb h)), h c hc]
theorem DatS.del {D : DataW Unit} {S : Bx → Bool} (h : DatS D S) {b : Bx} (hb : bxS 1000000 b) : DatS (D.del (keyB b)) (dnS S b) := by
 intro c hc;unfold dnS
 by_cases e : c = b
 ·subst e
  rw [if_pos rfl, has_del_same]
 ·rw [if_neg e, has_del_other (fun h => e (keyB_inj hc hb h)), h c hc]
def MpS (w : World) (b n : Nat) (S : Bx → Bool) : Prop := ∃ D, w.ownsMap Tryz.prog 41 (plainElem (H := Unit) Tryz.prog 3) b n D ∧ DatS D S
theorem MpS.lt {w : World} {b n : Nat} {S : Bx → Bool} (h : MpS w b n S) : b < w.heap.size := by
 obtain ⟨D, h, _⟩ := h;exact h.lt
theorem MpS.blk {w w' : World} {b n : Nat} {S : Bx → Bool} (h : MpS w b n S) (hb : w'.heap[b]? = w.heap[b]?) : MpS w' b n S := by
 obtain ⟨D, ⟨es, clock, hb', r⟩, hd⟩ := h;exact ⟨D, ⟨es, clock, hb.trans hb', r⟩, hd⟩
theorem MpS.bel {w w' : World} {b n : Nat} {S : Bx → Bool} (h : MpS w b n S) (hb : Below w.heap.size w w') : MpS w' b n S := h.blk (hb.block b h.lt)
theorem MpS.made (w : World) : MpS (w.alloc (.map #[] 0)) w.heap.size 0 fun _ => false := ⟨_, World.ownsMap_made w Tryz.prog 41 _, DatS.empty⟩
theorem MpS.look {w : World} {b n : Nat} {S : Bx → Bool} (h : MpS w b n S) {k : Bx} (hk : bxS 1000000 k) :
  ∃ z, (Instr.lookup 230 (.map (some b)) (bxv k) true).run Tryz.prog w = .ok (.tuple #[.int .i64 z, .bool (S k)]) w := by
 obtain ⟨D, h, hd⟩ := h;obtain ⟨v, ps, hrun, hv⟩ := World.ownsMap.look_ok (t := 230) (e := 3) h lawB Tryz.underlying230 (zero3 w) (zd := .lit (.int .i64 0)) (zp := []) (plainElem_int Tryz.underlying3 (by decide)) (key := bxv k) (kl := keyB k) (keyOf_bx hk);obtain ⟨c, rfl, hc, _⟩ := plainElem_int_inv Tryz.underlying3 hv;exact ⟨c, by rw [hrun, hd k hk]⟩
theorem MpS.store {w : World} {b n : Nat} {S : Bx → Bool} (h : MpS w b n S) (hn : n < maxLen) {k : Bx} (hk : bxS 1000000 k) {v : Int} (hv : (Lit.int .i64 v).wf = true) :
  ∃ w', (Instr.mapUpdate 230 (.map (some b)) (bxv k) (.int .i64 v)).run Tryz.prog w = .ok () w' ∧ MpS w' b (n + 1) (upS S k) ∧ w.mapTurned w' b := by
 obtain ⟨D, h, hd⟩ := h;obtain ⟨w', h1, h2, h3⟩ := h.store lawB Tryz.underlying230 hn (keyOf_bx hk) (plainElem_int Tryz.underlying3 hv);exact ⟨w', h1, ⟨_, h2, hd.put h.isMap hk _⟩, h3⟩
section
variable (w : World) {ops : Array Oper} {rest : List Oper} {o : Oper} {a : Act} {Q : Exit → Act → World → Prop}
theorem wpl_dropS (hg : o.guard = none) (m x : Operand) (hop : o.op = Op.call { callee := Callee.builtin Builtin.delete, args := #[m, x], argTypes := #[230, 41] })
  (b n : Nat) (S : Bx → Bool) (hm : a.eval m = .map (some b)) (h : MpS w b n S) (k : Bx) (hx : a.eval x = bxv k) (hk : bxS 1000000 k)
  (hK : ∀ w', MpS w' b n (dnS S k) → w.mapTurned w' b → wpList Tryz.prog ops Q rest (a.put o.dst (.tuple #[])) w') :
  wpList Tryz.prog ops Q (o :: rest) a w := by
 obtain ⟨D, h, hd⟩ := h;refine wpList_plain hg fun K' hK' => ?_
 obtain ⟨w', hrun, r1, r2⟩ := h.drop lawB Tryz.underlying230 (keyOf_bx hk) o.type;unfold Oper.wp;simp [execOp, hop, resolve, invoke, builtin, hm, hx, hrun, Result.andThen];exact hK' _ _ (hK w' ⟨_, r1, hd.del hk⟩ r2)
theorem wpl_putS (hg : o.guard = none) (m x v : Operand) (hop : o.op = Op.mapUpdate 230 m x v) (b n : Nat) (S : Bx → Bool)
  (hm : a.eval m = .map (some b)) (h : MpS w b n S) (hn : n < maxLen) (k : Bx) (z : Int) (hx : a.eval x = bxv k) (hv : a.eval v = .int .i64 z) (hk : bxS 1000000 k) (hz : (Lit.int .i64 z).wf = true)
  (hK : ∀ w', MpS w' b (n + 1) (upS S k) → w.mapTurned w' b → wpList Tryz.prog ops Q rest (a.put o.dst undef) w') :
  wpList Tryz.prog ops Q (o :: rest) a w := by
 refine wpList_plain hg fun K' hK' => ?_
 obtain ⟨w', hrun, r1, r2⟩ := h.store hn hk hz;unfold Oper.wp;simp [execOp, hop, hm, hx, hv, hrun, Result.andThen];exact hK' _ _ (hK w' r1 r2)
end
end Go.Proofs.YtkiplmabjeadgaaGreat
