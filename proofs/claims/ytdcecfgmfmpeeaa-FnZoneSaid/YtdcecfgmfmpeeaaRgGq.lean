/-
  Statements of the circle's other methods that draw their order, each walked alone.
-/
import Derived.Test.YtdcecfgmfmpeeaaZalq
namespace Go.Proofs.Ytdcecfgmfmpeeaa
open Go.ChangeShapes Go.WideShapes Go.ChangeAt Go.RowKit
set_option linter.unusedVariables false
set_option linter.unusedSimpArgs false
noncomputable def rg67 (id : Nat) : Go.Code := match Try.f67.body with | some c => (regOfZ id c).getD .skip | none => .skip
noncomputable def rg68 (id : Nat) : Go.Code := match Try.f68.body with | some c => (regOfZ id c).getD .skip | none => .skip
theorem ite4 {α : Type} (p q r s : Prop) [Decidable p] [Decidable q] [Decidable r] [Decidable s] (x : Bool → α) : (if p then if q then if r then if s then x true else x false else x false else x false else x false) = x (decide p && (decide q && (decide r && decide s))) := by
 by_cases hp : p <;> by_cases hq : q <;> by_cases hr : r <;> by_cases hs : s <;> simp [hp, hq, hr, hs]
theorem eq72 (a b c d a' b' c' d' : Int) (W : World) : (binOp .eql 72 (.agg #[.int .i64 a, .int .i64 b, .int .i64 c, .int .i64 d]) (.agg #[.int .i64 a', .int .i64 b', .int .i64 c', .int .i64 d'])).run Try.prog W = .ok (.bool (decide (a = a' ∧ b = b' ∧ c = c' ∧ d = d'))) W := by
 cases h1 : a == a' <;> cases h2 : b == b' <;> cases h3 : c == c' <;> cases h4 : d == d'
 all_goals
  have k1 := h1
  have k2 := h2
  have k3 := h3
  have k4 := h4
  simp only [beq_eq_false_iff_ne, beq_iff_eq] at k1 k2 k3 k4
  have e : decide (a = a' ∧ b = b' ∧ c = c' ∧ d = d') = (a == a' && b == b' && c == c' && d == d') := by simp [k1, k2, k3, k4]
  rw [e, h1, h2, h3, h4]
  clear e k1 k2 k3 k4
  go_simp
set_option maxHeartbeats 4000000 in
set_option maxRecDepth 100000 in
theorem on5t {s0 s3 s4 s5 s8 s9 s10 s11 s12 s13 s14 s15 s16 s17 s18 s19 s20 s21 s22 s23 s24 s25 s26 s27 s28 s29 s30 s31 s32 s33 : Value} {b b2 b7 n cap i j : Nat} {X Y D N x y r : Int} {V : World} {K_ : Act → World → Prop} (hr : r = N)
  (H20 : Hid (V.cell? ⟨b2, 0, none⟩ = some (.int .i64 (X)))) (H21 : Hid (V.cell? ⟨b2, 1, none⟩ = some (.int .i64 (Y)))) (H22 : Hid (V.cell? ⟨b2, 2, none⟩ = some (.int .i64 (D)))) (H23 : Hid (V.cell? ⟨b2, 3, none⟩ = some (.int .i64 (N)))) (H70 : Hid (V.cell? ⟨b7, 0, none⟩ = some (.int .i64 (x)))) (H71 : Hid (V.cell? ⟨b7, 1, none⟩ = some (.int .i64 (y)))) 
  (HF2 : Hid (∀ Xw, Below V.heap.size V Xw → Calls Try.prog 66 #[.agg #[.int .i64 (X), .int .i64 (Y), .int .i64 (D), .int .i64 (N)], .agg #[.int .i64 (x), .int .i64 (y)]] Xw fun e w' => e = .returned (.int .i64 (r)) ∧ Below Xw.heap.size Xw w'))
  (HF9 : Hid (∀ Xw, Below V.heap.size V Xw → Calls Try.prog 53 #[.slice (some ⟨b, 0, none⟩) n cap, .agg #[.int .i64 (x), .int .i64 (y)]] Xw fun e w' => e = .returned (.int .i64 (j : Int)) ∧ Below Xw.heap.size Xw w'))
  (hQ : ∀ (W1 : World), Below V.heap.size V W1 → K_ { tmps := #[s0, .slice (some ⟨b, 0, none⟩) n cap, .pointer (some ⟨b2, 0, none⟩), s3, s4, s5, .int .i64 (i : Int), .pointer (some ⟨b7, 0, none⟩), s8, s9, s10, s11, s12, s13, s14, .agg #[.int .i64 (X), .int .i64 (Y), .int .i64 (D), .int .i64 (N)], .agg #[.int .i64 (x), .int .i64 (y)], .int .i64 (r), .pointer (some ⟨b2, 3, none⟩), .int .i64 (N), .bool (true), .bool (true), .slice (some ⟨b, 0, none⟩) n cap, .agg #[.int .i64 (x), .int .i64 (y)], .int .i64 (j : Int), .int .i64 (i : Int), .bool ((j : Int) == (i : Int)), .bool ((j : Int) == (i : Int)), s28, s29, s30, s31, s32, s33], defers := [] } W1) :
  Go.Code.wp Try.prog (rg67 5) (Only K_) { tmps := #[s0, .slice (some ⟨b, 0, none⟩) n cap, .pointer (some ⟨b2, 0, none⟩), s3, s4, s5, .int .i64 (i : Int), .pointer (some ⟨b7, 0, none⟩), s8, s9, s10, s11, s12, s13, s14, s15, s16, s17, s18, s19, s20, s21, s22, s23, s24, s25, s26, s27, s28, s29, s30, s31, s32, s33], defers := [] } V := by
 have HQ := hide hQ
 clear hQ
 have tm : (r == N) = true := beq_iff_eq.2 hr
 clear hr
 conv => arg 2; whnf
 refine wp_region_inv2 (fun Lb A W => ∃ (u0 u1 u2 u3 u4 u5 u6 u7 u8 u9 u10 u11 u12 : Bool) (dm : Nat), Lb = #[u0, u1, u2, u3, u4, u5, u6, u7, u8, u9, u10, u11, u12] ∧ A = ({ tmps := #[s0, .slice (some ⟨b, 0, none⟩) n cap, .pointer (some ⟨b2, 0, none⟩), s3, s4, s5, .int .i64 (i : Int), .pointer (some ⟨b7, 0, none⟩), s8, s9, s10, s11, s12, s13, s14, (bif u0 then .agg #[.int .i64 (X), .int .i64 (Y), .int .i64 (D), .int .i64 (N)] else s15), (bif u1 then .agg #[.int .i64 (x), .int .i64 (y)] else s16), (bif u2 then .int .i64 (r) else s17), (bif u3 then .pointer (some ⟨b2, 3, none⟩) else s18), (bif u4 then .int .i64 (N) else s19), (bif u5 then .bool (true) else s20), (bif u6 then .bool (true) else s21), (bif u7 then .slice (some ⟨b, 0, none⟩) n cap else s22), (bif u8 then .agg #[.int .i64 (x), .int .i64 (y)] else s23), (bif u9 then .int .i64 (j : Int) else s24), (bif u10 then .int .i64 (i : Int) else s25), (bif u11 then .bool ((j : Int) == (i : Int)) else s26), (bif u12 then .bool ((j : Int) == (i : Int)) else s27), s28, s29, s30, s31, s32, s33], defers := [] } : Act) ∧ Below V.heap.size V W ∧ (u2 = true → u0 = true ∧ u1 = true) ∧ (u4 = true → u3 = true) ∧ (u5 = true → u2 = true ∧ u4 = true) ∧ (u6 = true → u5 = true) ∧ (u7 = true → u6 = true) ∧ (u8 = true → u6 = true) ∧ (u9 = true → u7 = true ∧ u8 = true ∧ u6 = true) ∧ (u10 = true → u6 = true) ∧ (u11 = true → u9 = true ∧ u10 = true ∧ u6 = true) ∧ (u12 = true → u0 = true ∧ u1 = true ∧ u2 = true ∧ u3 = true ∧ u4 = true ∧ u5 = true ∧ u6 = true ∧ u7 = true ∧ u8 = true ∧ u9 = true ∧ u10 = true ∧ u11 = true)) (by kernel_rfl) (by kernel_rfl) ?h0 ?hstep ?hend
 case h0 =>
  exact ⟨false, false, false, false, false, false, false, false, false, false, false, false, false, 0, rfl, rfl, Below.drew (Below.refl _ _), zf, zf, zf, zf, zf, zf, zf, zf, zf, zf⟩
 case hstep =>
  intro Lb A W hI
  obtain ⟨u0, u1, u2, u3, u4, hI⟩ := hI
  obtain ⟨u5, u6, u7, u8, u9, hI⟩ := hI
  obtain ⟨u10, u11, u12, dm, hI⟩ := hI
  obtain ⟨hLb, hI⟩ := hI
  obtain ⟨hA, hI⟩ := hI
  obtain ⟨kB, hI⟩ := hI
  obtain ⟨l2, hI⟩ := hI
  obtain ⟨l4, hI⟩ := hI
  obtain ⟨l5, hI⟩ := hI
  obtain ⟨l6, hI⟩ := hI
  obtain ⟨l7, hI⟩ := hI
  obtain ⟨l8, hI⟩ := hI
  obtain ⟨l9, hI⟩ := hI
  obtain ⟨l10, hI⟩ := hI
  obtain ⟨l11, hI⟩ := hI
  have kF := hI
  clear hI
  subst hLb
  subst hA
  replace kB := hide kB
  replace l2 := hide l2
  replace l4 := hide l4
  replace l5 := hide l5
  replace l6 := hide l6
  replace l7 := hide l7
  replace l8 := hide l8
  replace l9 := hide l9
  replace l10 := hide l10
  replace l11 := hide l11
  replace kF := hide kF
  refine ⟨?_, ?_, ?_, ?_, ?_, ?_, ?_, ?_, ?_, ?_, ?_, ?_, ?_, trivial⟩
  ·intro h0 hd K hK
   have z : u0 = false := h0
   have z12_ : u12 = false := znb fun hu => z.symm.trans ((zu kF hu).1)
   subst z12_
   subst z
   clear h0 hd
   rw [if_pos (by rfl)]
   have c0 := keep1 (zu kB) (zu H20)
   have c1 := keep1 (zu kB) (zu H21)
   have c2 := keep1 (zu kB) (zu H22)
   have c3 := keep1 (zu kB) (zu H23)
   go_simp
   exact zu hK _ _ ⟨true, u1, u2, u3, u4, u5, u6, u7, u8, u9, u10, u11, false, dm, rfl, rfl, zu kB, (fun h => ⟨rfl, (zu l2 h).2⟩), zu l4, zu l5, zu l6, zu l7, zu l8, zu l9, zu l10, zu l11, zf⟩
  ·intro h0 hd K hK
   have z : u1 = false := h0
   have z12_ : u12 = false := znb fun hu => z.symm.trans ((zu kF hu).2.1)
   subst z12_
   subst z
   clear h0 hd
   rw [if_pos (by rfl)]
   have c0 := keep1 (zu kB) (zu H70)
   have c1 := keep1 (zu kB) (zu H71)
   go_simp
   exact zu hK _ _ ⟨u0, true, u2, u3, u4, u5, u6, u7, u8, u9, u10, u11, false, dm, rfl, rfl, zu kB, (fun h => ⟨(zu l2 h).1, rfl⟩), zu l4, zu l5, zu l6, zu l7, zu l8, zu l9, zu l10, zu l11, zf⟩
  ·intro h0 hd K hK
   have z : u2 = false := h0
   have z12_ : u12 = false := znb fun hu => z.symm.trans ((zu kF hu).2.2.1)
   have zd : u0 = true ∧ u1 = true := by
    simp [Region.binds] at hd
    simp [hd]
   obtain ⟨rfl, rfl⟩ := zd
   subst z12_
   subst z
   clear h0 hd
   rw [if_pos (by rfl)]
   go_simp
   refine (zu HF2 W (zu kB)).mono ?_
   rintro e w8 ⟨rfl, hb8⟩
   exact zu hK _ _ ⟨true, true, true, u3, u4, u5, u6, u7, u8, u9, u10, u11, false, dm, rfl, rfl, bc (zu kB) hb8, (fun _ => ⟨rfl, rfl⟩), zu l4, (fun h => ⟨rfl, (zu l5 h).2⟩), zu l6, zu l7, zu l8, zu l9, zu l10, zu l11, zf⟩
  ·intro h0 hd K hK
   have z : u3 = false := h0
   have z12_ : u12 = false := znb fun hu => z.symm.trans ((zu kF hu).2.2.2.1)
   subst z12_
   subst z
   clear h0 hd
   rw [if_pos (by rfl)]
   go_simp
   exact zu hK _ _ ⟨u0, u1, u2, true, u4, u5, u6, u7, u8, u9, u10, u11, false, dm, rfl, rfl, zu kB, zu l2, (fun h => rfl), zu l5, zu l6, zu l7, zu l8, zu l9, zu l10, zu l11, zf⟩
  ·intro h0 hd K hK
   have z : u4 = false := h0
   have z12_ : u12 = false := znb fun hu => z.symm.trans ((zu kF hu).2.2.2.2.1)
   have zd : u3 = true := by
    simp [Region.binds] at hd
    simp [hd]
   obtain ⟨rfl⟩ := zd
   subst z12_
   subst z
   clear h0 hd
   rw [if_pos (by rfl)]
   have c0 := keep1 (zu kB) (zu H23)
   go_simp
   exact zu hK _ _ ⟨u0, u1, u2, true, true, u5, u6, u7, u8, u9, u10, u11, false, dm, rfl, rfl, zu kB, zu l2, (fun _ => rfl), (fun h => ⟨(zu l5 h).1, rfl⟩), zu l6, zu l7, zu l8, zu l9, zu l10, zu l11, zf⟩
  ·intro h0 hd K hK
   have z : u5 = false := h0
   have z12_ : u12 = false := znb fun hu => z.symm.trans ((zu kF hu).2.2.2.2.2.1)
   have zd : u2 = true ∧ u4 = true := by
    simp [Region.binds] at hd
    simp [hd]
   obtain ⟨rfl, rfl⟩ := zd
   subst z12_
   subst z
   clear h0 hd
   rw [if_pos (by rfl)]
   go_simp
   exact zu hK _ _ ⟨u0, u1, true, u3, true, true, u6, u7, u8, u9, u10, u11, false, dm, rfl, rfl, zu kB, zu l2, zu l4, (fun _ => ⟨rfl, rfl⟩), (fun h => rfl), zu l7, zu l8, zu l9, zu l10, zu l11, zf⟩
  ·intro h0 hd K hK
   have z : u6 = false := h0
   have z12_ : u12 = false := znb fun hu => z.symm.trans ((zu kF hu).2.2.2.2.2.2.1)
   have zd : u5 = true := by
    simp [Region.binds] at hd
    simp [hd]
   obtain ⟨rfl⟩ := zd
   subst z12_
   subst z
   clear h0 hd
   rw [if_pos (by rfl)]
   go_simp
   exact zu hK _ _ ⟨u0, u1, u2, u3, u4, true, true, u7, u8, u9, u10, u11, false, dm, rfl, rfl, zu kB, zu l2, zu l4, zu l5, (fun _ => rfl), (fun h => rfl), (fun h => rfl), (fun h => ⟨(zu l9 h).1, (zu l9 h).2.1, rfl⟩), (fun h => rfl), (fun h => ⟨(zu l11 h).1, (zu l11 h).2.1, rfl⟩), zf⟩
  ·intro h0 hd K hK
   have z : u7 = false := h0
   have z12_ : u12 = false := znb fun hu => z.symm.trans ((zu kF hu).2.2.2.2.2.2.2.1)
   have zd : u6 = true := by
    simp [Region.binds] at hd
    simp [hd]
   obtain ⟨rfl⟩ := zd
   subst z12_
   subst z
   clear h0 hd
   rw [if_pos (by rfl)]
   go_simp
   exact zu hK _ _ ⟨u0, u1, u2, u3, u4, u5, true, true, u8, u9, u10, u11, false, dm, rfl, rfl, zu kB, zu l2, zu l4, zu l5, zu l6, (fun _ => rfl), (fun h => rfl), (fun h => ⟨rfl, (zu l9 h).2.1, rfl⟩), (fun h => rfl), (fun h => ⟨(zu l11 h).1, (zu l11 h).2.1, rfl⟩), zf⟩
  ·intro h0 hd K hK
   have z : u8 = false := h0
   have z12_ : u12 = false := znb fun hu => z.symm.trans ((zu kF hu).2.2.2.2.2.2.2.2.1)
   have zd : u6 = true := by
    simp [Region.binds] at hd
    simp [hd]
   obtain ⟨rfl⟩ := zd
   subst z12_
   subst z
   clear h0 hd
   rw [if_pos (by rfl)]
   have c0 := keep1 (zu kB) (zu H70)
   have c1 := keep1 (zu kB) (zu H71)
   go_simp
   exact zu hK _ _ ⟨u0, u1, u2, u3, u4, u5, true, u7, true, u9, u10, u11, false, dm, rfl, rfl, zu kB, zu l2, zu l4, zu l5, zu l6, (fun h => rfl), (fun _ => rfl), (fun h => ⟨(zu l9 h).1, rfl, rfl⟩), (fun h => rfl), (fun h => ⟨(zu l11 h).1, (zu l11 h).2.1, rfl⟩), zf⟩
  ·intro h0 hd K hK
   have z : u9 = false := h0
   have z12_ : u12 = false := znb fun hu => z.symm.trans ((zu kF hu).2.2.2.2.2.2.2.2.2.1)
   have zd : u7 = true ∧ u8 = true ∧ u6 = true := by
    simp [Region.binds] at hd
    simp [hd]
   obtain ⟨rfl, rfl, rfl⟩ := zd
   subst z12_
   subst z
   clear h0 hd
   rw [if_pos (by rfl)]
   go_simp
   refine (zu HF9 W (zu kB)).mono ?_
   rintro e w8 ⟨rfl, hb8⟩
   exact zu hK _ _ ⟨u0, u1, u2, u3, u4, u5, true, true, true, true, u10, u11, false, dm, rfl, rfl, bc (zu kB) hb8, zu l2, zu l4, zu l5, zu l6, (fun h => rfl), (fun h => rfl), (fun _ => ⟨rfl, rfl, rfl⟩), (fun h => rfl), (fun h => ⟨rfl, (zu l11 h).2.1, rfl⟩), zf⟩
  ·intro h0 hd K hK
   have z : u10 = false := h0
   have z12_ : u12 = false := znb fun hu => z.symm.trans ((zu kF hu).2.2.2.2.2.2.2.2.2.2.1)
   have zd : u6 = true := by
    simp [Region.binds] at hd
    simp [hd]
   obtain ⟨rfl⟩ := zd
   subst z12_
   subst z
   clear h0 hd
   rw [if_pos (by rfl)]
   go_simp
   exact zu hK _ _ ⟨u0, u1, u2, u3, u4, u5, true, u7, u8, u9, true, u11, false, dm, rfl, rfl, zu kB, zu l2, zu l4, zu l5, zu l6, (fun h => rfl), (fun h => rfl), (fun h => ⟨(zu l9 h).1, (zu l9 h).2.1, rfl⟩), (fun _ => rfl), (fun h => ⟨(zu l11 h).1, rfl, rfl⟩), zf⟩
  ·intro h0 hd K hK
   have z : u11 = false := h0
   have z12_ : u12 = false := znb fun hu => z.symm.trans ((zu kF hu).2.2.2.2.2.2.2.2.2.2.2)
   have zd : u9 = true ∧ u10 = true ∧ u6 = true := by
    simp [Region.binds] at hd
    simp [hd]
   obtain ⟨rfl, rfl, rfl⟩ := zd
   subst z12_
   subst z
   clear h0 hd
   rw [if_pos (by rfl)]
   go_simp
   exact zu hK _ _ ⟨u0, u1, u2, u3, u4, u5, true, u7, u8, true, true, true, false, dm, rfl, rfl, zu kB, zu l2, zu l4, zu l5, zu l6, (fun h => rfl), (fun h => rfl), (fun h => ⟨(zu l9 h).1, (zu l9 h).2.1, rfl⟩), (fun h => rfl), (fun _ => ⟨rfl, rfl, rfl⟩), zf⟩
  ·intro h0 hd K hK
   have z : u12 = false := h0
   have zd0 : u6 = true ∧ u11 = true := by
    simp [Region.binds] at hd
    simp [hd]
   have zd : u6 = true ∧ u11 = true ∧ u0 = true ∧ u1 = true ∧ u2 = true ∧ u3 = true ∧ u4 = true ∧ u5 = true ∧ u7 = true ∧ u8 = true ∧ u9 = true ∧ u10 = true := ⟨zd0.1, zd0.2, (zu l2 (zu l5 (zu l6 zd0.1)).1).1, (zu l2 (zu l5 (zu l6 zd0.1)).1).2, (zu l5 (zu l6 zd0.1)).1, (zu l4 (zu l5 (zu l6 zd0.1)).2), (zu l5 (zu l6 zd0.1)).2, (zu l6 zd0.1), (zu l9 (zu l11 zd0.2).1).1, (zu l9 (zu l11 zd0.2).1).2.1, (zu l11 zd0.2).1, (zu l11 zd0.2).2.1⟩
   obtain ⟨rfl, rfl, rfl, rfl, rfl, rfl, rfl, rfl, rfl, rfl, rfl, rfl⟩ := zd
   subst z
   clear h0 hd
   rw [if_pos (by rfl)]
   go_simp
   exact zu hK _ _ ⟨true, true, true, true, true, true, true, true, true, true, true, true, true, dm, rfl, rfl, zu kB, (fun _ => ⟨rfl, rfl⟩), (fun _ => rfl), (fun _ => ⟨rfl, rfl⟩), (fun _ => rfl), (fun _ => rfl), (fun _ => rfl), (fun _ => ⟨rfl, rfl, rfl⟩), (fun _ => rfl), (fun _ => ⟨rfl, rfl, rfl⟩), (fun _ => ⟨rfl, rfl, rfl, rfl, rfl, rfl, rfl, rfl, rfl, rfl, rfl, rfl⟩)⟩
 case hend =>
  intro Lb A W hI
  obtain ⟨u0, u1, u2, u3, u4, hI⟩ := hI
  obtain ⟨u5, u6, u7, u8, u9, hI⟩ := hI
  obtain ⟨u10, u11, u12, dm, hI⟩ := hI
  obtain ⟨hLb, hI⟩ := hI
  obtain ⟨hA, hI⟩ := hI
  obtain ⟨kB, hI⟩ := hI
  obtain ⟨l2, hI⟩ := hI
  obtain ⟨l4, hI⟩ := hI
  obtain ⟨l5, hI⟩ := hI
  obtain ⟨l6, hI⟩ := hI
  obtain ⟨l7, hI⟩ := hI
  obtain ⟨l8, hI⟩ := hI
  obtain ⟨l9, hI⟩ := hI
  obtain ⟨l10, hI⟩ := hI
  obtain ⟨l11, hI⟩ := hI
  have kF := hI
  clear hI
  subst hLb
  subst hA
  intro hL
  have hl : u0 = true ∧ u1 = true ∧ u2 = true ∧ u3 = true ∧ u4 = true ∧ u5 = true ∧ u6 = true ∧ u7 = true ∧ u8 = true ∧ u9 = true ∧ u10 = true ∧ u11 = true ∧ u12 = true := by
   have h2 := congrArg Array.toList hL
   simpa [List.replicate] using h2
  obtain ⟨rfl, rfl, rfl, rfl, rfl, rfl, rfl, rfl, rfl, rfl, rfl, rfl, rfl⟩ := hl
  exact zu HQ  W kB
set_option maxHeartbeats 4000000 in
set_option maxRecDepth 100000 in
theorem on5f {s0 s3 s4 s5 s8 s9 s10 s11 s12 s13 s14 s15 s16 s17 s18 s19 s20 s21 s22 s23 s24 s25 s26 s27 s28 s29 s30 s31 s32 s33 : Value} {b b2 b7 n cap i j : Nat} {X Y D N x y r : Int} {V : World} {K_ : Act → World → Prop} (hr : ¬ r = N)
  (H20 : Hid (V.cell? ⟨b2, 0, none⟩ = some (.int .i64 (X)))) (H21 : Hid (V.cell? ⟨b2, 1, none⟩ = some (.int .i64 (Y)))) (H22 : Hid (V.cell? ⟨b2, 2, none⟩ = some (.int .i64 (D)))) (H23 : Hid (V.cell? ⟨b2, 3, none⟩ = some (.int .i64 (N)))) (H70 : Hid (V.cell? ⟨b7, 0, none⟩ = some (.int .i64 (x)))) (H71 : Hid (V.cell? ⟨b7, 1, none⟩ = some (.int .i64 (y)))) 
  (HF2 : Hid (∀ Xw, Below V.heap.size V Xw → Calls Try.prog 66 #[.agg #[.int .i64 (X), .int .i64 (Y), .int .i64 (D), .int .i64 (N)], .agg #[.int .i64 (x), .int .i64 (y)]] Xw fun e w' => e = .returned (.int .i64 (r)) ∧ Below Xw.heap.size Xw w'))
  (hQ : ∀ (W1 : World), Below V.heap.size V W1 → K_ { tmps := #[s0, .slice (some ⟨b, 0, none⟩) n cap, .pointer (some ⟨b2, 0, none⟩), s3, s4, s5, .int .i64 (i : Int), .pointer (some ⟨b7, 0, none⟩), s8, s9, s10, s11, s12, s13, s14, .agg #[.int .i64 (X), .int .i64 (Y), .int .i64 (D), .int .i64 (N)], .agg #[.int .i64 (x), .int .i64 (y)], .int .i64 (r), .pointer (some ⟨b2, 3, none⟩), .int .i64 (N), .bool (false), .bool (false), undef, undef, undef, undef, undef, .bool (false), s28, s29, s30, s31, s32, s33], defers := [] } W1) :
  Go.Code.wp Try.prog (rg67 5) (Only K_) { tmps := #[s0, .slice (some ⟨b, 0, none⟩) n cap, .pointer (some ⟨b2, 0, none⟩), s3, s4, s5, .int .i64 (i : Int), .pointer (some ⟨b7, 0, none⟩), s8, s9, s10, s11, s12, s13, s14, s15, s16, s17, s18, s19, s20, s21, s22, s23, s24, s25, s26, s27, s28, s29, s30, s31, s32, s33], defers := [] } V := by
 have HQ := hide hQ
 clear hQ
 have tm : (r == N) = false := beq_eq_false_iff_ne.2 hr
 conv => arg 2; whnf
 refine wp_region_inv2 (fun Lb A W => ∃ (u0 u1 u2 u3 u4 u5 u6 u7 u8 u9 u10 u11 u12 : Bool) (dm : Nat), Lb = #[u0, u1, u2, u3, u4, u5, u6, u7, u8, u9, u10, u11, u12] ∧ A = ({ tmps := #[s0, .slice (some ⟨b, 0, none⟩) n cap, .pointer (some ⟨b2, 0, none⟩), s3, s4, s5, .int .i64 (i : Int), .pointer (some ⟨b7, 0, none⟩), s8, s9, s10, s11, s12, s13, s14, (bif u0 then .agg #[.int .i64 (X), .int .i64 (Y), .int .i64 (D), .int .i64 (N)] else s15), (bif u1 then .agg #[.int .i64 (x), .int .i64 (y)] else s16), (bif u2 then .int .i64 (r) else s17), (bif u3 then .pointer (some ⟨b2, 3, none⟩) else s18), (bif u4 then .int .i64 (N) else s19), (bif u5 then .bool (false) else s20), (bif u6 then .bool (false) else s21), (bif u7 then undef else s22), (bif u8 then undef else s23), (bif u9 then undef else s24), (bif u10 then undef else s25), (bif u11 then undef else s26), (bif u12 then .bool (false) else s27), s28, s29, s30, s31, s32, s33], defers := [] } : Act) ∧ Below V.heap.size V W ∧ (u2 = true → u0 = true ∧ u1 = true) ∧ (u4 = true → u3 = true) ∧ (u5 = true → u2 = true ∧ u4 = true) ∧ (u6 = true → u5 = true) ∧ (u7 = true → u6 = true) ∧ (u8 = true → u6 = true) ∧ (u9 = true → u7 = true ∧ u8 = true ∧ u6 = true) ∧ (u10 = true → u6 = true) ∧ (u11 = true → u9 = true ∧ u10 = true ∧ u6 = true) ∧ (u12 = true → u0 = true ∧ u1 = true ∧ u2 = true ∧ u3 = true ∧ u4 = true ∧ u5 = true ∧ u6 = true ∧ u7 = true ∧ u8 = true ∧ u9 = true ∧ u10 = true ∧ u11 = true)) (by kernel_rfl) (by kernel_rfl) ?h0 ?hstep ?hend
 case h0 =>
  exact ⟨false, false, false, false, false, false, false, false, false, false, false, false, false, 0, rfl, rfl, Below.drew (Below.refl _ _), zf, zf, zf, zf, zf, zf, zf, zf, zf, zf⟩
 case hstep =>
  intro Lb A W hI
  obtain ⟨u0, u1, u2, u3, u4, hI⟩ := hI
  obtain ⟨u5, u6, u7, u8, u9, hI⟩ := hI
  obtain ⟨u10, u11, u12, dm, hI⟩ := hI
  obtain ⟨hLb, hI⟩ := hI
  obtain ⟨hA, hI⟩ := hI
  obtain ⟨kB, hI⟩ := hI
  obtain ⟨l2, hI⟩ := hI
  obtain ⟨l4, hI⟩ := hI
  obtain ⟨l5, hI⟩ := hI
  obtain ⟨l6, hI⟩ := hI
  obtain ⟨l7, hI⟩ := hI
  obtain ⟨l8, hI⟩ := hI
  obtain ⟨l9, hI⟩ := hI
  obtain ⟨l10, hI⟩ := hI
  obtain ⟨l11, hI⟩ := hI
  have kF := hI
  clear hI
  subst hLb
  subst hA
  replace kB := hide kB
  replace l2 := hide l2
  replace l4 := hide l4
  replace l5 := hide l5
  replace l6 := hide l6
  replace l7 := hide l7
  replace l8 := hide l8
  replace l9 := hide l9
  replace l10 := hide l10
  replace l11 := hide l11
  replace kF := hide kF
  refine ⟨?_, ?_, ?_, ?_, ?_, ?_, ?_, ?_, ?_, ?_, ?_, ?_, ?_, trivial⟩
  ·intro h0 hd K hK
   have z : u0 = false := h0
   have z12_ : u12 = false := znb fun hu => z.symm.trans ((zu kF hu).1)
   subst z12_
   subst z
   clear h0 hd
   rw [if_pos (by rfl)]
   have c0 := keep1 (zu kB) (zu H20)
   have c1 := keep1 (zu kB) (zu H21)
   have c2 := keep1 (zu kB) (zu H22)
   have c3 := keep1 (zu kB) (zu H23)
   go_simp
   exact zu hK _ _ ⟨true, u1, u2, u3, u4, u5, u6, u7, u8, u9, u10, u11, false, dm, rfl, rfl, zu kB, (fun h => ⟨rfl, (zu l2 h).2⟩), zu l4, zu l5, zu l6, zu l7, zu l8, zu l9, zu l10, zu l11, zf⟩
  ·intro h0 hd K hK
   have z : u1 = false := h0
   have z12_ : u12 = false := znb fun hu => z.symm.trans ((zu kF hu).2.1)
   subst z12_
   subst z
   clear h0 hd
   rw [if_pos (by rfl)]
   have c0 := keep1 (zu kB) (zu H70)
   have c1 := keep1 (zu kB) (zu H71)
   go_simp
   exact zu hK _ _ ⟨u0, true, u2, u3, u4, u5, u6, u7, u8, u9, u10, u11, false, dm, rfl, rfl, zu kB, (fun h => ⟨(zu l2 h).1, rfl⟩), zu l4, zu l5, zu l6, zu l7, zu l8, zu l9, zu l10, zu l11, zf⟩
  ·intro h0 hd K hK
   have z : u2 = false := h0
   have z12_ : u12 = false := znb fun hu => z.symm.trans ((zu kF hu).2.2.1)
   have zd : u0 = true ∧ u1 = true := by
    simp [Region.binds] at hd
    simp [hd]
   obtain ⟨rfl, rfl⟩ := zd
   subst z12_
   subst z
   clear h0 hd
   rw [if_pos (by rfl)]
   go_simp
   refine (zu HF2 W (zu kB)).mono ?_
   rintro e w8 ⟨rfl, hb8⟩
   exact zu hK _ _ ⟨true, true, true, u3, u4, u5, u6, u7, u8, u9, u10, u11, false, dm, rfl, rfl, bc (zu kB) hb8, (fun _ => ⟨rfl, rfl⟩), zu l4, (fun h => ⟨rfl, (zu l5 h).2⟩), zu l6, zu l7, zu l8, zu l9, zu l10, zu l11, zf⟩
  ·intro h0 hd K hK
   have z : u3 = false := h0
   have z12_ : u12 = false := znb fun hu => z.symm.trans ((zu kF hu).2.2.2.1)
   subst z12_
   subst z
   clear h0 hd
   rw [if_pos (by rfl)]
   go_simp
   exact zu hK _ _ ⟨u0, u1, u2, true, u4, u5, u6, u7, u8, u9, u10, u11, false, dm, rfl, rfl, zu kB, zu l2, (fun h => rfl), zu l5, zu l6, zu l7, zu l8, zu l9, zu l10, zu l11, zf⟩
  ·intro h0 hd K hK
   have z : u4 = false := h0
   have z12_ : u12 = false := znb fun hu => z.symm.trans ((zu kF hu).2.2.2.2.1)
   have zd : u3 = true := by
    simp [Region.binds] at hd
    simp [hd]
   obtain ⟨rfl⟩ := zd
   subst z12_
   subst z
   clear h0 hd
   rw [if_pos (by rfl)]
   have c0 := keep1 (zu kB) (zu H23)
   go_simp
   exact zu hK _ _ ⟨u0, u1, u2, true, true, u5, u6, u7, u8, u9, u10, u11, false, dm, rfl, rfl, zu kB, zu l2, (fun _ => rfl), (fun h => ⟨(zu l5 h).1, rfl⟩), zu l6, zu l7, zu l8, zu l9, zu l10, zu l11, zf⟩
  ·intro h0 hd K hK
   have z : u5 = false := h0
   have z12_ : u12 = false := znb fun hu => z.symm.trans ((zu kF hu).2.2.2.2.2.1)
   have zd : u2 = true ∧ u4 = true := by
    simp [Region.binds] at hd
    simp [hd]
   obtain ⟨rfl, rfl⟩ := zd
   subst z12_
   subst z
   clear h0 hd
   rw [if_pos (by rfl)]
   go_simp
   exact zu hK _ _ ⟨u0, u1, true, u3, true, true, u6, u7, u8, u9, u10, u11, false, dm, rfl, rfl, zu kB, zu l2, zu l4, (fun _ => ⟨rfl, rfl⟩), (fun h => rfl), zu l7, zu l8, zu l9, zu l10, zu l11, zf⟩
  ·intro h0 hd K hK
   have z : u6 = false := h0
   have z12_ : u12 = false := znb fun hu => z.symm.trans ((zu kF hu).2.2.2.2.2.2.1)
   have zd : u5 = true := by
    simp [Region.binds] at hd
    simp [hd]
   obtain ⟨rfl⟩ := zd
   subst z12_
   subst z
   clear h0 hd
   rw [if_pos (by rfl)]
   go_simp
   exact zu hK _ _ ⟨u0, u1, u2, u3, u4, true, true, u7, u8, u9, u10, u11, false, dm, rfl, rfl, zu kB, zu l2, zu l4, zu l5, (fun _ => rfl), (fun h => rfl), (fun h => rfl), (fun h => ⟨(zu l9 h).1, (zu l9 h).2.1, rfl⟩), (fun h => rfl), (fun h => ⟨(zu l11 h).1, (zu l11 h).2.1, rfl⟩), zf⟩
  ·intro h0 hd K hK
   have z : u7 = false := h0
   have z12_ : u12 = false := znb fun hu => z.symm.trans ((zu kF hu).2.2.2.2.2.2.2.1)
   have zd : u6 = true := by
    simp [Region.binds] at hd
    simp [hd]
   obtain ⟨rfl⟩ := zd
   subst z12_
   subst z
   clear h0 hd
   rw [if_neg (Bool.eq_false_iff.1 (by rfl))]
   try go_simp
   exact zu hK _ _ ⟨u0, u1, u2, u3, u4, u5, true, true, u8, u9, u10, u11, false, dm, rfl, rfl, zu kB, zu l2, zu l4, zu l5, zu l6, (fun _ => rfl), (fun h => rfl), (fun h => ⟨rfl, (zu l9 h).2.1, rfl⟩), (fun h => rfl), (fun h => ⟨(zu l11 h).1, (zu l11 h).2.1, rfl⟩), zf⟩
  ·intro h0 hd K hK
   have z : u8 = false := h0
   have z12_ : u12 = false := znb fun hu => z.symm.trans ((zu kF hu).2.2.2.2.2.2.2.2.1)
   have zd : u6 = true := by
    simp [Region.binds] at hd
    simp [hd]
   obtain ⟨rfl⟩ := zd
   subst z12_
   subst z
   clear h0 hd
   rw [if_neg (Bool.eq_false_iff.1 (by rfl))]
   try go_simp
   exact zu hK _ _ ⟨u0, u1, u2, u3, u4, u5, true, u7, true, u9, u10, u11, false, dm, rfl, rfl, zu kB, zu l2, zu l4, zu l5, zu l6, (fun h => rfl), (fun _ => rfl), (fun h => ⟨(zu l9 h).1, rfl, rfl⟩), (fun h => rfl), (fun h => ⟨(zu l11 h).1, (zu l11 h).2.1, rfl⟩), zf⟩
  ·intro h0 hd K hK
   have z : u9 = false := h0
   have z12_ : u12 = false := znb fun hu => z.symm.trans ((zu kF hu).2.2.2.2.2.2.2.2.2.1)
   have zd : u7 = true ∧ u8 = true ∧ u6 = true := by
    simp [Region.binds] at hd
    simp [hd]
   obtain ⟨rfl, rfl, rfl⟩ := zd
   subst z12_
   subst z
   clear h0 hd
   rw [if_neg (Bool.eq_false_iff.1 (by rfl))]
   try go_simp
   exact zu hK _ _ ⟨u0, u1, u2, u3, u4, u5, true, true, true, true, u10, u11, false, dm, rfl, rfl, zu kB, zu l2, zu l4, zu l5, zu l6, (fun h => rfl), (fun h => rfl), (fun _ => ⟨rfl, rfl, rfl⟩), (fun h => rfl), (fun h => ⟨rfl, (zu l11 h).2.1, rfl⟩), zf⟩
  ·intro h0 hd K hK
   have z : u10 = false := h0
   have z12_ : u12 = false := znb fun hu => z.symm.trans ((zu kF hu).2.2.2.2.2.2.2.2.2.2.1)
   have zd : u6 = true := by
    simp [Region.binds] at hd
    simp [hd]
   obtain ⟨rfl⟩ := zd
   subst z12_
   subst z
   clear h0 hd
   rw [if_neg (Bool.eq_false_iff.1 (by rfl))]
   try go_simp
   exact zu hK _ _ ⟨u0, u1, u2, u3, u4, u5, true, u7, u8, u9, true, u11, false, dm, rfl, rfl, zu kB, zu l2, zu l4, zu l5, zu l6, (fun h => rfl), (fun h => rfl), (fun h => ⟨(zu l9 h).1, (zu l9 h).2.1, rfl⟩), (fun _ => rfl), (fun h => ⟨(zu l11 h).1, rfl, rfl⟩), zf⟩
  ·intro h0 hd K hK
   have z : u11 = false := h0
   have z12_ : u12 = false := znb fun hu => z.symm.trans ((zu kF hu).2.2.2.2.2.2.2.2.2.2.2)
   have zd : u9 = true ∧ u10 = true ∧ u6 = true := by
    simp [Region.binds] at hd
    simp [hd]
   obtain ⟨rfl, rfl, rfl⟩ := zd
   subst z12_
   subst z
   clear h0 hd
   rw [if_neg (Bool.eq_false_iff.1 (by rfl))]
   try go_simp
   exact zu hK _ _ ⟨u0, u1, u2, u3, u4, u5, true, u7, u8, true, true, true, false, dm, rfl, rfl, zu kB, zu l2, zu l4, zu l5, zu l6, (fun h => rfl), (fun h => rfl), (fun h => ⟨(zu l9 h).1, (zu l9 h).2.1, rfl⟩), (fun h => rfl), (fun _ => ⟨rfl, rfl, rfl⟩), zf⟩
  ·intro h0 hd K hK
   have z : u12 = false := h0
   have zd0 : u6 = true ∧ u11 = true := by
    simp [Region.binds] at hd
    simp [hd]
   have zd : u6 = true ∧ u11 = true ∧ u0 = true ∧ u1 = true ∧ u2 = true ∧ u3 = true ∧ u4 = true ∧ u5 = true ∧ u7 = true ∧ u8 = true ∧ u9 = true ∧ u10 = true := ⟨zd0.1, zd0.2, (zu l2 (zu l5 (zu l6 zd0.1)).1).1, (zu l2 (zu l5 (zu l6 zd0.1)).1).2, (zu l5 (zu l6 zd0.1)).1, (zu l4 (zu l5 (zu l6 zd0.1)).2), (zu l5 (zu l6 zd0.1)).2, (zu l6 zd0.1), (zu l9 (zu l11 zd0.2).1).1, (zu l9 (zu l11 zd0.2).1).2.1, (zu l11 zd0.2).1, (zu l11 zd0.2).2.1⟩
   obtain ⟨rfl, rfl, rfl, rfl, rfl, rfl, rfl, rfl, rfl, rfl, rfl, rfl⟩ := zd
   subst z
   clear h0 hd
   rw [if_pos (by rfl)]
   go_simp
   exact zu hK _ _ ⟨true, true, true, true, true, true, true, true, true, true, true, true, true, dm, rfl, rfl, zu kB, (fun _ => ⟨rfl, rfl⟩), (fun _ => rfl), (fun _ => ⟨rfl, rfl⟩), (fun _ => rfl), (fun _ => rfl), (fun _ => rfl), (fun _ => ⟨rfl, rfl, rfl⟩), (fun _ => rfl), (fun _ => ⟨rfl, rfl, rfl⟩), (fun _ => ⟨rfl, rfl, rfl, rfl, rfl, rfl, rfl, rfl, rfl, rfl, rfl, rfl⟩)⟩
 case hend =>
  intro Lb A W hI
  obtain ⟨u0, u1, u2, u3, u4, hI⟩ := hI
  obtain ⟨u5, u6, u7, u8, u9, hI⟩ := hI
  obtain ⟨u10, u11, u12, dm, hI⟩ := hI
  obtain ⟨hLb, hI⟩ := hI
  obtain ⟨hA, hI⟩ := hI
  obtain ⟨kB, hI⟩ := hI
  obtain ⟨l2, hI⟩ := hI
  obtain ⟨l4, hI⟩ := hI
  obtain ⟨l5, hI⟩ := hI
  obtain ⟨l6, hI⟩ := hI
  obtain ⟨l7, hI⟩ := hI
  obtain ⟨l8, hI⟩ := hI
  obtain ⟨l9, hI⟩ := hI
  obtain ⟨l10, hI⟩ := hI
  obtain ⟨l11, hI⟩ := hI
  have kF := hI
  clear hI
  subst hLb
  subst hA
  intro hL
  have hl : u0 = true ∧ u1 = true ∧ u2 = true ∧ u3 = true ∧ u4 = true ∧ u5 = true ∧ u6 = true ∧ u7 = true ∧ u8 = true ∧ u9 = true ∧ u10 = true ∧ u11 = true ∧ u12 = true := by
   have h2 := congrArg Array.toList hL
   simpa [List.replicate] using h2
  obtain ⟨rfl, rfl, rfl, rfl, rfl, rfl, rfl, rfl, rfl, rfl, rfl, rfl, rfl⟩ := hl
  exact zu HQ  W kB
set_option maxHeartbeats 4000000 in
set_option maxRecDepth 100000 in
theorem di7 {s0 s2 s4 s5 s6 s7 s9 s11 s12 s13 s14 s15 s16 s17 s18 s19 s20 s21 s22 s23 s24 s25 s26 s27 s28 s29 s30 s31 s32 s33 s34 s35 s36 s37 s38 s39 s40 s41 s42 s43 : Value} {b b3 n cap a c : Nat} {x0 y0 x1 y1 X Y D N X' Y' D' N' : Int} {V : World} {K_ : Act → World → Prop} 
  (HA0 : Hid (V.cell? ⟨b, a * 2, none⟩ = some (.int .i64 (x0)))) (HA1 : Hid (V.cell? ⟨b, a * 2 + 1, none⟩ = some (.int .i64 (y0)))) (HC0 : Hid (V.cell? ⟨b, c * 2, none⟩ = some (.int .i64 (x1)))) (HC1 : Hid (V.cell? ⟨b, c * 2 + 1, none⟩ = some (.int .i64 (y1)))) (H30 : Hid (V.cell? ⟨b3, 0, none⟩ = some (.int .i64 (X)))) (H31 : Hid (V.cell? ⟨b3, 1, none⟩ = some (.int .i64 (Y)))) (H32 : Hid (V.cell? ⟨b3, 2, none⟩ = some (.int .i64 (D)))) (H33 : Hid (V.cell? ⟨b3, 3, none⟩ = some (.int .i64 (N)))) 
  (HX2 : Hid (a < n))
  (HX6 : Hid (c < n))
  (HF9 : Hid (∀ n8 : Nat, ∀ Xw, Below V.heap.size V Xw → cb Xw n8 30 [.int .i64 (x0), .int .i64 (y0), .int .i64 (x1), .int .i64 (y1)] → Calls Try.prog 65 #[.slice (some ⟨n8, 0, none⟩) 2 2] Xw fun e w' => e = .returned (.agg #[.int .i64 (X'), .int .i64 (Y'), .int .i64 (D'), .int .i64 (N')]) ∧ Below Xw.heap.size Xw w'))
  (hQ : ∀ (n8 : Nat) (W1 : World), Below V.heap.size V W1 → cb W1 n8 30 [.int .i64 (x0), .int .i64 (y0), .int .i64 (x1), .int .i64 (y1)] → V.heap.size ≤ n8 → K_ { tmps := #[s0, .slice (some ⟨b, 0, none⟩) n cap, s2, .pointer (some ⟨b3, 0, none⟩), s4, s5, s6, s7, .int .i64 (a : Int), s9, .int .i64 (c : Int), s11, s12, s13, s14, s15, s16, s17, s18, s19, s20, s21, s22, s23, s24, s25, s26, .slice (some ⟨b, 0, none⟩) n cap, .int .i64 (a : Int), .pointer (some ⟨b, a * 2, none⟩), .agg #[.int .i64 (x0), .int .i64 (y0)], .slice (some ⟨b, 0, none⟩) n cap, .int .i64 (c : Int), .pointer (some ⟨b, c * 2, none⟩), .agg #[.int .i64 (x1), .int .i64 (y1)], .slice (some ⟨n8, 0, none⟩) 2 2, .agg #[.int .i64 (X'), .int .i64 (Y'), .int .i64 (D'), .int .i64 (N')], .agg #[.int .i64 (X), .int .i64 (Y), .int .i64 (D), .int .i64 (N)], .bool (decide (X' = X) && (decide (Y' = Y) && (decide (D' = D) && decide (N' = N)))), s39, s40, s41, s42, s43], defers := [] } W1) :
  Go.Code.wp Try.prog (rg68 7) (Only K_) { tmps := #[s0, .slice (some ⟨b, 0, none⟩) n cap, s2, .pointer (some ⟨b3, 0, none⟩), s4, s5, s6, s7, .int .i64 (a : Int), s9, .int .i64 (c : Int), s11, s12, s13, s14, s15, s16, s17, s18, s19, s20, s21, s22, s23, s24, s25, s26, s27, s28, s29, s30, s31, s32, s33, s34, s35, s36, s37, s38, s39, s40, s41, s42, s43], defers := [] } V := by
 have HQ := hide hQ
 clear hQ
 conv => arg 2; whnf
 refine wp_region_inv2 (fun Lb A W => ∃ (u0 u1 u2 u3 u4 u5 u6 u7 u8 u9 u10 u11 : Bool) (n8 : Nat), Lb = #[u0, u1, u2, u3, u4, u5, u6, u7, u8, u9, u10, u11] ∧ A = ({ tmps := #[s0, .slice (some ⟨b, 0, none⟩) n cap, s2, .pointer (some ⟨b3, 0, none⟩), s4, s5, s6, s7, .int .i64 (a : Int), s9, .int .i64 (c : Int), s11, s12, s13, s14, s15, s16, s17, s18, s19, s20, s21, s22, s23, s24, s25, s26, (bif u0 then .slice (some ⟨b, 0, none⟩) n cap else s27), (bif u1 then .int .i64 (a : Int) else s28), (bif u2 then .pointer (some ⟨b, a * 2, none⟩) else s29), (bif u3 then .agg #[.int .i64 (x0), .int .i64 (y0)] else s30), (bif u4 then .slice (some ⟨b, 0, none⟩) n cap else s31), (bif u5 then .int .i64 (c : Int) else s32), (bif u6 then .pointer (some ⟨b, c * 2, none⟩) else s33), (bif u7 then .agg #[.int .i64 (x1), .int .i64 (y1)] else s34), (bif u8 then .slice (some ⟨n8, 0, none⟩) 2 2 else s35), (bif u9 then .agg #[.int .i64 (X'), .int .i64 (Y'), .int .i64 (D'), .int .i64 (N')] else s36), (bif u10 then .agg #[.int .i64 (X), .int .i64 (Y), .int .i64 (D), .int .i64 (N)] else s37), (bif u11 then .bool (decide (X' = X) && (decide (Y' = Y) && (decide (D' = D) && decide (N' = N)))) else s38), s39, s40, s41, s42, s43], defers := [] } : Act) ∧ Below V.heap.size V W ∧ (u8 = true → cb W n8 30 [.int .i64 (x0), .int .i64 (y0), .int .i64 (x1), .int .i64 (y1)] ∧ V.heap.size ≤ n8) ∧ (u2 = true → u0 = true ∧ u1 = true) ∧ (u3 = true → u2 = true) ∧ (u6 = true → u4 = true ∧ u5 = true) ∧ (u7 = true → u6 = true) ∧ (u8 = true → u3 = true ∧ u7 = true) ∧ (u9 = true → u8 = true) ∧ (u11 = true → u0 = true ∧ u1 = true ∧ u2 = true ∧ u3 = true ∧ u4 = true ∧ u5 = true ∧ u6 = true ∧ u7 = true ∧ u8 = true ∧ u9 = true ∧ u10 = true)) (by kernel_rfl) (by kernel_rfl) ?h0 ?hstep ?hend
 case h0 =>
  exact ⟨false, false, false, false, false, false, false, false, false, false, false, false, 0, rfl, rfl, Below.drew (Below.refl _ _), zf, zf, zf, zf, zf, zf, zf, zf⟩
 case hstep =>
  intro Lb A W hI
  obtain ⟨u0, u1, u2, u3, u4, hI⟩ := hI
  obtain ⟨u5, u6, u7, u8, u9, hI⟩ := hI
  obtain ⟨u10, u11, n8, hI⟩ := hI
  obtain ⟨hLb, hI⟩ := hI
  obtain ⟨hA, hI⟩ := hI
  obtain ⟨kB, hI⟩ := hI
  obtain ⟨k8, hI⟩ := hI
  obtain ⟨l2, hI⟩ := hI
  obtain ⟨l3, hI⟩ := hI
  obtain ⟨l6, hI⟩ := hI
  obtain ⟨l7, hI⟩ := hI
  obtain ⟨l8, hI⟩ := hI
  obtain ⟨l9, hI⟩ := hI
  have kF := hI
  clear hI
  subst hLb
  subst hA
  replace kB := hide kB
  replace k8 := hide k8
  replace l2 := hide l2
  replace l3 := hide l3
  replace l6 := hide l6
  replace l7 := hide l7
  replace l8 := hide l8
  replace l9 := hide l9
  replace kF := hide kF
  refine ⟨?_, ?_, ?_, ?_, ?_, ?_, ?_, ?_, ?_, ?_, ?_, ?_, trivial⟩
  ·intro h0 hd K hK
   have z : u0 = false := h0
   have z11_ : u11 = false := znb fun hu => z.symm.trans ((zu kF hu).1)
   subst z11_
   subst z
   clear h0 hd
   rw [if_pos (by rfl)]
   go_simp
   exact zu hK _ _ ⟨true, u1, u2, u3, u4, u5, u6, u7, u8, u9, u10, false, n8, rfl, rfl, zu kB, zu k8, (fun h => ⟨rfl, (zu l2 h).2⟩), zu l3, zu l6, zu l7, zu l8, zu l9, zf⟩
  ·intro h0 hd K hK
   have z : u1 = false := h0
   have z11_ : u11 = false := znb fun hu => z.symm.trans ((zu kF hu).2.1)
   subst z11_
   subst z
   clear h0 hd
   rw [if_pos (by rfl)]
   go_simp
   exact zu hK _ _ ⟨u0, true, u2, u3, u4, u5, u6, u7, u8, u9, u10, false, n8, rfl, rfl, zu kB, zu k8, (fun h => ⟨(zu l2 h).1, rfl⟩), zu l3, zu l6, zu l7, zu l8, zu l9, zf⟩
  ·intro h0 hd K hK
   have z : u2 = false := h0
   have z11_ : u11 = false := znb fun hu => z.symm.trans ((zu kF hu).2.2.1)
   have zd : u0 = true ∧ u1 = true := by
    simp [Region.binds] at hd
    simp [hd]
   obtain ⟨rfl, rfl⟩ := zd
   subst z11_
   subst z
   clear h0 hd
   rw [if_pos (by rfl)]
   have q1 : a < n := zu HX2
   have q2 : (a : Int) < (n : Int) := by omega
   go_simp
   exact zu hK _ _ ⟨true, true, true, u3, u4, u5, u6, u7, u8, u9, u10, false, n8, rfl, rfl, zu kB, zu k8, (fun _ => ⟨rfl, rfl⟩), (fun h => rfl), zu l6, zu l7, zu l8, zu l9, zf⟩
  ·intro h0 hd K hK
   have z : u3 = false := h0
   have z11_ : u11 = false := znb fun hu => z.symm.trans ((zu kF hu).2.2.2.1)
   have zd : u2 = true := by
    simp [Region.binds] at hd
    simp [hd]
   obtain ⟨rfl⟩ := zd
   subst z11_
   subst z
   clear h0 hd
   rw [if_pos (by rfl)]
   have c0 := keep1 (zu kB) (zu HA0)
   have c1 := keep1 (zu kB) (zu HA1)
   go_simp
   exact zu hK _ _ ⟨u0, u1, true, true, u4, u5, u6, u7, u8, u9, u10, false, n8, rfl, rfl, zu kB, zu k8, zu l2, (fun _ => rfl), zu l6, zu l7, (fun h => ⟨rfl, (zu l8 h).2⟩), zu l9, zf⟩
  ·intro h0 hd K hK
   have z : u4 = false := h0
   have z11_ : u11 = false := znb fun hu => z.symm.trans ((zu kF hu).2.2.2.2.1)
   subst z11_
   subst z
   clear h0 hd
   rw [if_pos (by rfl)]
   go_simp
   exact zu hK _ _ ⟨u0, u1, u2, u3, true, u5, u6, u7, u8, u9, u10, false, n8, rfl, rfl, zu kB, zu k8, zu l2, zu l3, (fun h => ⟨rfl, (zu l6 h).2⟩), zu l7, zu l8, zu l9, zf⟩
  ·intro h0 hd K hK
   have z : u5 = false := h0
   have z11_ : u11 = false := znb fun hu => z.symm.trans ((zu kF hu).2.2.2.2.2.1)
   subst z11_
   subst z
   clear h0 hd
   rw [if_pos (by rfl)]
   go_simp
   exact zu hK _ _ ⟨u0, u1, u2, u3, u4, true, u6, u7, u8, u9, u10, false, n8, rfl, rfl, zu kB, zu k8, zu l2, zu l3, (fun h => ⟨(zu l6 h).1, rfl⟩), zu l7, zu l8, zu l9, zf⟩
  ·intro h0 hd K hK
   have z : u6 = false := h0
   have z11_ : u11 = false := znb fun hu => z.symm.trans ((zu kF hu).2.2.2.2.2.2.1)
   have zd : u4 = true ∧ u5 = true := by
    simp [Region.binds] at hd
    simp [hd]
   obtain ⟨rfl, rfl⟩ := zd
   subst z11_
   subst z
   clear h0 hd
   rw [if_pos (by rfl)]
   have q1 : c < n := zu HX6
   have q2 : (c : Int) < (n : Int) := by omega
   go_simp
   exact zu hK _ _ ⟨u0, u1, u2, u3, true, true, true, u7, u8, u9, u10, false, n8, rfl, rfl, zu kB, zu k8, zu l2, zu l3, (fun _ => ⟨rfl, rfl⟩), (fun h => rfl), zu l8, zu l9, zf⟩
  ·intro h0 hd K hK
   have z : u7 = false := h0
   have z11_ : u11 = false := znb fun hu => z.symm.trans ((zu kF hu).2.2.2.2.2.2.2.1)
   have zd : u6 = true := by
    simp [Region.binds] at hd
    simp [hd]
   obtain ⟨rfl⟩ := zd
   subst z11_
   subst z
   clear h0 hd
   rw [if_pos (by rfl)]
   have c0 := keep1 (zu kB) (zu HC0)
   have c1 := keep1 (zu kB) (zu HC1)
   go_simp
   exact zu hK _ _ ⟨u0, u1, u2, u3, u4, u5, true, true, u8, u9, u10, false, n8, rfl, rfl, zu kB, zu k8, zu l2, zu l3, zu l6, (fun _ => rfl), (fun h => ⟨(zu l8 h).1, rfl⟩), zu l9, zf⟩
  ·intro h0 hd K hK
   have z : u8 = false := h0
   have z11_ : u11 = false := znb fun hu => z.symm.trans ((zu kF hu).2.2.2.2.2.2.2.2.1)
   have zd : u3 = true ∧ u7 = true := by
    simp [Region.binds] at hd
    simp [hd]
   obtain ⟨rfl, rfl⟩ := zd
   subst z11_
   subst z
   clear h0 hd
   rw [if_pos (by rfl)]
   go_simp
   exact zu hK _ _ ⟨u0, u1, u2, true, u4, u5, u6, true, true, u9, u10, false, W.heap.size, rfl, rfl, ba (zu kB) _, (fun _ => ⟨cb_new W 30 _ _ rfl, (zu kB).size⟩), zu l2, zu l3, zu l6, zu l7, (fun _ => ⟨rfl, rfl⟩), (fun h => rfl), zf⟩
  ·intro h0 hd K hK
   have z : u9 = false := h0
   have z11_ : u11 = false := znb fun hu => z.symm.trans ((zu kF hu).2.2.2.2.2.2.2.2.2.1)
   have zd : u8 = true := by
    simp [Region.binds] at hd
    simp [hd]
   obtain ⟨rfl⟩ := zd
   subst z11_
   subst z
   clear h0 hd
   rw [if_pos (by rfl)]
   go_simp
   refine (zu HF9 _ W (zu kB) (zu k8 rfl).1).mono ?_
   rintro e w8 ⟨rfl, hb8⟩
   exact zu hK _ _ ⟨u0, u1, u2, u3, u4, u5, u6, u7, true, true, u10, false, n8, rfl, rfl, bc (zu kB) hb8, (fun h => ⟨(zu k8 h).1.bel hb8, (zu k8 h).2⟩), zu l2, zu l3, zu l6, zu l7, zu l8, (fun _ => rfl), zf⟩
  ·intro h0 hd K hK
   have z : u10 = false := h0
   have z11_ : u11 = false := znb fun hu => z.symm.trans ((zu kF hu).2.2.2.2.2.2.2.2.2.2)
   subst z11_
   subst z
   clear h0 hd
   rw [if_pos (by rfl)]
   have c0 := keep1 (zu kB) (zu H30)
   have c1 := keep1 (zu kB) (zu H31)
   have c2 := keep1 (zu kB) (zu H32)
   have c3 := keep1 (zu kB) (zu H33)
   go_simp
   exact zu hK _ _ ⟨u0, u1, u2, u3, u4, u5, u6, u7, u8, u9, true, false, n8, rfl, rfl, zu kB, zu k8, zu l2, zu l3, zu l6, zu l7, zu l8, zu l9, zf⟩
  ·intro h0 hd K hK
   have z : u11 = false := h0
   have zd0 : u9 = true ∧ u10 = true := by
    simp [Region.binds] at hd
    simp [hd]
   have zd : u9 = true ∧ u10 = true ∧ u0 = true ∧ u1 = true ∧ u2 = true ∧ u3 = true ∧ u4 = true ∧ u5 = true ∧ u6 = true ∧ u7 = true ∧ u8 = true := ⟨zd0.1, zd0.2, (zu l2 (zu l3 (zu l8 (zu l9 zd0.1)).1)).1, (zu l2 (zu l3 (zu l8 (zu l9 zd0.1)).1)).2, (zu l3 (zu l8 (zu l9 zd0.1)).1), (zu l8 (zu l9 zd0.1)).1, (zu l6 (zu l7 (zu l8 (zu l9 zd0.1)).2)).1, (zu l6 (zu l7 (zu l8 (zu l9 zd0.1)).2)).2, (zu l7 (zu l8 (zu l9 zd0.1)).2), (zu l8 (zu l9 zd0.1)).2, (zu l9 zd0.1)⟩
   obtain ⟨rfl, rfl, rfl, rfl, rfl, rfl, rfl, rfl, rfl, rfl, rfl⟩ := zd
   subst z
   clear h0 hd
   rw [if_pos (by rfl)]
   go_simp
   have e4 : (if X' = X then if Y' = Y then if D' = D then if N' = N then Result.ok (Next.value (Value.bool true)) W else Result.ok (Next.value (Value.bool false)) W else Result.ok (Next.value (Value.bool false)) W else Result.ok (Next.value (Value.bool false)) W else Result.ok (Next.value (Value.bool false)) W) = Result.ok (Next.value (Value.bool (decide (X' = X) && (decide (Y' = Y) && (decide (D' = D) && decide (N' = N)))))) W := ite4 _ _ _ _ (fun b => Result.ok (Next.value (Value.bool b)) W)
   rw [e4]
   go_simp
   exact zu hK _ _ ⟨true, true, true, true, true, true, true, true, true, true, true, true, n8, rfl, rfl, zu kB, zu k8, (fun _ => ⟨rfl, rfl⟩), (fun _ => rfl), (fun _ => ⟨rfl, rfl⟩), (fun _ => rfl), (fun _ => ⟨rfl, rfl⟩), (fun _ => rfl), (fun _ => ⟨rfl, rfl, rfl, rfl, rfl, rfl, rfl, rfl, rfl, rfl, rfl⟩)⟩
 case hend =>
  intro Lb A W hI
  obtain ⟨u0, u1, u2, u3, u4, hI⟩ := hI
  obtain ⟨u5, u6, u7, u8, u9, hI⟩ := hI
  obtain ⟨u10, u11, n8, hI⟩ := hI
  obtain ⟨hLb, hI⟩ := hI
  obtain ⟨hA, hI⟩ := hI
  obtain ⟨kB, hI⟩ := hI
  obtain ⟨k8, hI⟩ := hI
  obtain ⟨l2, hI⟩ := hI
  obtain ⟨l3, hI⟩ := hI
  obtain ⟨l6, hI⟩ := hI
  obtain ⟨l7, hI⟩ := hI
  obtain ⟨l8, hI⟩ := hI
  obtain ⟨l9, hI⟩ := hI
  have kF := hI
  clear hI
  subst hLb
  subst hA
  intro hL
  have hl : u0 = true ∧ u1 = true ∧ u2 = true ∧ u3 = true ∧ u4 = true ∧ u5 = true ∧ u6 = true ∧ u7 = true ∧ u8 = true ∧ u9 = true ∧ u10 = true ∧ u11 = true := by
   have h2 := congrArg Array.toList hL
   simpa [List.replicate] using h2
  obtain ⟨rfl, rfl, rfl, rfl, rfl, rfl, rfl, rfl, rfl, rfl, rfl, rfl⟩ := hl
  exact zu HQ n8 W kB (k8 rfl).1 (k8 rfl).2
end Go.Proofs.Ytdcecfgmfmpeeaa
