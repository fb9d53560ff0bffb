/-
  Rows of the lesser kind of floating numbers, as the laws look at them.
-/
import Derived.Test.YtgocgcnpgmamiaaCaP
import Derived.Test.YtgocgcnpgmamiaaFlLw
import Derived.Test.YtgocgcnpgmamiaaInv2
namespace Go.Proofs.Ytgocgcnpgmamiaa
open Go.ChangeShapes Go.WideShapes Go.ChangeAt Go.RowKit
set_option linter.unusedVariables false
set_option linter.unusedSimpArgs false

attribute [local go_sem] run_store_flt run_store_cpx
noncomputable def rg32 (id : Nat) : Go.Code := match Try.f32.body with | some c => (regOfZ id c).getD .skip | none => .skip

/-- a number of the lesser kind in the greater one -/
def wid (o : Option Nat) : Option Nat := o.bind fun b => floatToFloatBits .f32 b .f64
theorem f32_le {b : Nat} {s : Bool} {m : Nat} {e : Int} (h : FloatKind.f32.format.read b = .number s m e) : (m : Rat) * p2 e ≤ p2 (top .f64) := by
  have hb : FloatKind.f32.format.binade = 8388608 := rfl
  have hi : FloatKind.f32.format.infRung = 2139095040 := rfl
  have hl : FloatKind.f32.format.leastPlace = -149 := rfl
  have key : m < 2 ^ 24 ∧ e ≤ 200 := by
    unfold Ieee.Format.read at h
    dsimp only at h
    rw [hb, hi, hl] at h
    split at h
    · rename_i c1
      cases h
      omega
    · rename_i c1
      split at h
      · rename_i c2
        cases h
        have : b % FloatKind.f32.format.signWeight % 8388608 < 8388608 := Nat.mod_lt _ (by omega)
        have h9 : b % FloatKind.f32.format.signWeight / 8388608 < 255 := Nat.div_lt_of_lt_mul (by omega)
        omega
      · split at h <;> cases h
  have h1 : (m : Rat) ≤ ((2 ^ 24 : Nat) : Rat) := by exact_mod_cast Nat.le_of_lt key.1
  have h2 := Rat.mul_le_mul_of_nonneg_right h1 (Rat.le_of_lt (p2_pos e))
  rw [← p2_nat, ← p2_add] at h2
  exact Rat.le_trans h2 (p2_le (by show _ ≤ (1000 : Int); omega))
theorem wid_run (b : Nat) (w : World) : ∃ r n, (convert 41 28 (.float .f32 b)).run Try.prog w = .ok (.float .f64 r) (w.drewN n) ∧ Fv .f64 r = wid (Fv .f32 b) := by
  rcases fv_cases .f32 b with hb | hb
  · have hnn : (FloatKind.f32.format.read b).isNaN = false := by
      unfold Fv at hb
      split at hb
      · cases hb
      · rename_i h; simpa using h
    have hs : ∃ r, floatToFloatBits .f32 b .f64 = some r ∧ Fv .f64 r = some r := by
      unfold floatToFloatBits
      rw [if_neg (by decide)]
      cases hr : FloatKind.f32.format.read b with
      | number s m e =>
        have hdec : FloatKind.f32.decode b = .number s m e := hr
        obtain ⟨⟨s', m', e', hr'⟩, _⟩ := near_num .f64 s m e (f32_le hr)
        have hinf : (FloatKind.f64.decode (FloatKind.f64.encode (.number s m e))).isInfinity = false := by
          show (FloatKind.f64.format.read (FloatKind.f64.format.write (.number s m e))).isInfinity = false
          rw [hr']
          rfl
        rw [hdec]
        refine ⟨FloatKind.f64.encode (.number s m e), ?_, fv_some (read_write _ _ rfl)⟩
        show (if (FloatKind.f64.decode (FloatKind.f64.encode (.number s m e))).isInfinity = true then none else some (FloatKind.f64.encode (.number s m e))) = _
        rw [if_neg (by rw [hinf]; simp)]
      | infinity s =>
        have hdec : FloatKind.f32.decode b = .infinity s := hr
        rw [hdec]
        exact ⟨_, rfl, fv_some (read_write _ _ rfl)⟩
      | nan s f => rw [hr] at hnn; cases hnn
    obtain ⟨r, h1, h2⟩ := hs
    refine ⟨r, 0, run_convert_float_float w 41 28 .f32 .f64 b r (by rw [Try.underlying41]; rfl) Try.underlying28 h1, ?_⟩
    rw [h2, hb]
    exact h1.symm
  · have hnn : (FloatKind.f32.format.read b).isNaN = true := by
      unfold Fv at hb
      split at hb
      · assumption
      · cases hb
    cases hr : FloatKind.f32.format.read b with
    | number s m e => rw [hr] at hnn; cases hnn
    | infinity s => rw [hr] at hnn; cases hnn
    | nan s f =>
      have hdec : FloatKind.f32.decode b = .nan s f := hr
      refine ⟨Question.cut (.nanConv .f64 b) (w.tape w.drawn (.nanConv .f64 b)), 1, ?_, by rw [hb]; exact nan_conv _ _ _⟩
      have h41 := Try.underlying41
      have h28 := Try.underlying28
      simp [convert, run_underlying h41, run_underlying h28, Conv.floatToFloat, hdec, Question.forced]
      rfl
set_option maxHeartbeats 4000000 in
set_option maxRecDepth 100000 in
theorem eq6 {s2 s3 s4 s6 s7 s8 s9 s10 s11 s12 s13 s14 s15 s16 s17 s18 s19 s20 s21 s22 s23 s24 s25 s26 s27 s28 : Value} {p po q qo n cu cv i x0 y0 : Nat} {Fa : Option Nat} {V : World} {K_ : Act → World → Prop} (HTra : Hid (wid (Fv .f32 x0) = Fa)) (HTrb : Hid (wid (Fv .f32 y0) = Fa))
    (HC0 : Hid (V.cell? ⟨p, po + i, none⟩ = some (.float .f32 x0))) (HC1 : Hid (V.cell? ⟨q, qo + i, none⟩ = some (.float .f32 y0))) 
    (HX2 : Hid (i < n))
    (HX7 : Hid (i < n))
    (HF10 : Hid (∀ ra : Nat, Fv .f64 ra = Fa → ∀ rb : Nat, Fv .f64 rb = Fa → ∀ Xw, Below V.heap.size V Xw → Calls Try.prog 35 #[.float .f64 ra, .float .f64 rb] Xw fun e w' => e = .returned (.bool (true)) ∧ Below Xw.heap.size Xw w'))
    (hQ : ∀  (ra : Nat) (rb : Nat) (W1 : World), Below V.heap.size V W1 → Fv .f64 ra = Fa → Fv .f64 rb = Fa → K_ { tmps := #[.slice (some ⟨p, po, none⟩) n cu, .slice (some ⟨q, qo, none⟩) n cv, s2, s3, s4, .int .i64 (i : Int), s6, s7, s8, s9, s10, s11, s12, s13, s14, s15, s16, .slice (some ⟨p, po, none⟩) n cu, .int .i64 (i : Int), .pointer (some ⟨p, po + i, none⟩), .float .f32 x0, .float .f64 ra, .slice (some ⟨q, qo, none⟩) n cv, .int .i64 (i : Int), .pointer (some ⟨q, qo + i, none⟩), .float .f32 y0, .float .f64 rb, .bool (true), .bool (!true)], defers := [] } W1) :
    Go.Code.wp Try.prog (rg32 6) (Only K_) { tmps := #[.slice (some ⟨p, po, none⟩) n cu, .slice (some ⟨q, qo, none⟩) n cv, s2, s3, s4, .int .i64 (i : Int), s6, s7, s8, s9, s10, s11, s12, s13, s14, s15, s16, s17, s18, s19, s20, s21, s22, s23, s24, s25, s26, s27, s28], defers := [] } V := by
  have HQ := hide hQ
  clear hQ
  conv => arg 2; whnf
  refine wp_region_inv2 (fun Lb A W => ∃ (u0 u1 u2 u3 u4 u5 u6 u7 u8 u9 u10 u11 : Bool) (ra : Nat) (rb : Nat), Lb = #[u0, u1, u2, u3, u4, u5, u6, u7, u8, u9, u10, u11] ∧ A = ({ tmps := #[.slice (some ⟨p, po, none⟩) n cu, .slice (some ⟨q, qo, none⟩) n cv, s2, s3, s4, .int .i64 (i : Int), s6, s7, s8, s9, s10, s11, s12, s13, s14, s15, s16, (bif u0 then .slice (some ⟨p, po, none⟩) n cu else s17), (bif u1 then .int .i64 (i : Int) else s18), (bif u2 then .pointer (some ⟨p, po + i, none⟩) else s19), (bif u3 then .float .f32 x0 else s20), (bif u4 then .float .f64 ra else s21), (bif u5 then .slice (some ⟨q, qo, none⟩) n cv else s22), (bif u6 then .int .i64 (i : Int) else s23), (bif u7 then .pointer (some ⟨q, qo + i, none⟩) else s24), (bif u8 then .float .f32 y0 else s25), (bif u9 then .float .f64 rb else s26), (bif u10 then .bool (true) else s27), (bif u11 then .bool (!true) else s28)], defers := [] } : Act) ∧ Below V.heap.size V W ∧ (u4 = true → Fv .f64 ra = Fa) ∧ (u9 = true → Fv .f64 rb = Fa) ∧ (u2 = true → u0 = true ∧ u1 = true) ∧ (u3 = true → u2 = true) ∧ (u4 = true → u3 = true) ∧ (u7 = true → u5 = true ∧ u6 = true) ∧ (u8 = true → u7 = true) ∧ (u9 = true → u8 = true) ∧ (u10 = true → u4 = true ∧ u9 = true) ∧ (u11 = true → u0 = true ∧ u1 = true ∧ u2 = true ∧ u3 = true ∧ u4 = true ∧ u5 = true ∧ u6 = true ∧ u7 = true ∧ u8 = true ∧ u9 = true ∧ u10 = true)) (by kernel_rfl) (by kernel_rfl) ?h0 ?hstep ?hend
  case h0 =>
    exact ⟨false, false, false, false, false, false, false, false, false, false, false, false, 0, 0, rfl, rfl, Below.drew (Below.refl _ _), zf, zf, zf, zf, zf, zf, zf, zf, zf, zf⟩
  case hstep =>
    intro Lb A W hI
    obtain ⟨u0, u1, u2, u3, u4, hI⟩ := hI
    obtain ⟨u5, u6, u7, u8, u9, hI⟩ := hI
    obtain ⟨u10, u11, ra, rb, hI⟩ := hI
    obtain ⟨hLb, hI⟩ := hI
    obtain ⟨hA, hI⟩ := hI
    obtain ⟨kB, hI⟩ := hI
    obtain ⟨kx4, hI⟩ := hI
    obtain ⟨kx9, hI⟩ := hI
    obtain ⟨l2, hI⟩ := hI
    obtain ⟨l3, hI⟩ := hI
    obtain ⟨l4, hI⟩ := hI
    obtain ⟨l7, hI⟩ := hI
    obtain ⟨l8, hI⟩ := hI
    obtain ⟨l9, hI⟩ := hI
    obtain ⟨l10, hI⟩ := hI
    have kF := hI
    clear hI
    subst hLb
    subst hA
    replace kB := hide kB
    replace kx4 := hide kx4
    replace kx9 := hide kx9
    replace l2 := hide l2
    replace l3 := hide l3
    replace l4 := hide l4
    replace l7 := hide l7
    replace l8 := hide l8
    replace l9 := hide l9
    replace l10 := hide l10
    replace kF := hide kF
    refine ⟨?_, ?_, ?_, ?_, ?_, ?_, ?_, ?_, ?_, ?_, ?_, ?_, trivial⟩
    · intro h0 hd K hK
      have z : u0 = false := h0
      have z11_ : u11 = false := znb fun hu => z.symm.trans ((zu kF hu).1)
      subst z11_
      subst z
      clear h0 hd
      rw [if_pos (by rfl)]
      go_simp
      exact unhide hK _ _ ⟨true, u1, u2, u3, u4, u5, u6, u7, u8, u9, u10, false, ra, rb, rfl, rfl, zu kB, zu kx4, zu kx9, (fun h => ⟨rfl, (zu l2 h).2⟩), zu l3, zu l4, zu l7, zu l8, zu l9, zu l10, zf⟩
    · intro h0 hd K hK
      have z : u1 = false := h0
      have z11_ : u11 = false := znb fun hu => z.symm.trans ((zu kF hu).2.1)
      subst z11_
      subst z
      clear h0 hd
      rw [if_pos (by rfl)]
      go_simp
      exact unhide hK _ _ ⟨u0, true, u2, u3, u4, u5, u6, u7, u8, u9, u10, false, ra, rb, rfl, rfl, zu kB, zu kx4, zu kx9, (fun h => ⟨(zu l2 h).1, rfl⟩), zu l3, zu l4, zu l7, zu l8, zu l9, zu l10, zf⟩
    · intro h0 hd K hK
      have z : u2 = false := h0
      have z11_ : u11 = false := znb fun hu => z.symm.trans ((zu kF hu).2.2.1)
      have zd : u0 = true ∧ u1 = true := by
        simp [Region.binds] at hd
        simp [hd]
      obtain ⟨rfl, rfl⟩ := zd
      subst z11_
      subst z
      clear h0 hd
      rw [if_pos (by rfl)]
      have q1 : i < n := unhide HX2
      have q2 : (i : Int) < (n : Int) := by omega
      go_simp
      exact unhide hK _ _ ⟨true, true, true, u3, u4, u5, u6, u7, u8, u9, u10, false, ra, rb, rfl, rfl, zu kB, zu kx4, zu kx9, (fun _ => ⟨rfl, rfl⟩), (fun h => rfl), zu l4, zu l7, zu l8, zu l9, zu l10, zf⟩
    · intro h0 hd K hK
      have z : u3 = false := h0
      have z11_ : u11 = false := znb fun hu => z.symm.trans ((zu kF hu).2.2.2.1)
      have zd : u2 = true := by
        simp [Region.binds] at hd
        simp [hd]
      obtain ⟨rfl⟩ := zd
      subst z11_
      subst z
      clear h0 hd
      rw [if_pos (by rfl)]
      have c0 := keep1 (zu kB) (unhide HC0)
      go_simp
      exact unhide hK _ _ ⟨u0, u1, true, true, u4, u5, u6, u7, u8, u9, u10, false, ra, rb, rfl, rfl, zu kB, zu kx4, zu kx9, zu l2, (fun _ => rfl), (fun h => rfl), zu l7, zu l8, zu l9, zu l10, zf⟩
    · intro h0 hd K hK
      have z : u4 = false := h0
      have z11_ : u11 = false := znb fun hu => z.symm.trans ((zu kF hu).2.2.2.2.1)
      have zd : u3 = true := by
        simp [Region.binds] at hd
        simp [hd]
      obtain ⟨rfl⟩ := zd
      subst z11_
      subst z
      clear h0 hd
      rw [if_pos (by rfl)]
      obtain ⟨ra_, n_, hrun_, hq_⟩ := wid_run x0 W
      have hr_ : Fv .f64 ra_ = Fa := (by rw [hq_]; exact unhide HTra)
      clear hq_
      go_simp
      exact unhide hK _ _ ⟨u0, u1, u2, true, true, u5, u6, u7, u8, u9, u10, false, ra_, rb, rfl, rfl, bel_dn' (zu kB) _, (fun _ => hr_), zu kx9, zu l2, zu l3, (fun _ => rfl), zu l7, zu l8, zu l9, (fun h => ⟨rfl, (zu l10 h).2⟩), zf⟩
    · intro h0 hd K hK
      have z : u5 = false := h0
      have z11_ : u11 = false := znb fun hu => z.symm.trans ((zu kF hu).2.2.2.2.2.1)
      subst z11_
      subst z
      clear h0 hd
      rw [if_pos (by rfl)]
      go_simp
      exact unhide hK _ _ ⟨u0, u1, u2, u3, u4, true, u6, u7, u8, u9, u10, false, ra, rb, rfl, rfl, zu kB, zu kx4, zu kx9, zu l2, zu l3, zu l4, (fun h => ⟨rfl, (zu l7 h).2⟩), zu l8, zu l9, zu l10, zf⟩
    · intro h0 hd K hK
      have z : u6 = false := h0
      have z11_ : u11 = false := znb fun hu => z.symm.trans ((zu kF hu).2.2.2.2.2.2.1)
      subst z11_
      subst z
      clear h0 hd
      rw [if_pos (by rfl)]
      go_simp
      exact unhide hK _ _ ⟨u0, u1, u2, u3, u4, u5, true, u7, u8, u9, u10, false, ra, rb, rfl, rfl, zu kB, zu kx4, zu kx9, zu l2, zu l3, zu l4, (fun h => ⟨(zu l7 h).1, rfl⟩), zu l8, zu l9, zu l10, zf⟩
    · intro h0 hd K hK
      have z : u7 = false := h0
      have z11_ : u11 = false := znb fun hu => z.symm.trans ((zu kF hu).2.2.2.2.2.2.2.1)
      have zd : u5 = true ∧ u6 = true := by
        simp [Region.binds] at hd
        simp [hd]
      obtain ⟨rfl, rfl⟩ := zd
      subst z11_
      subst z
      clear h0 hd
      rw [if_pos (by rfl)]
      have q1 : i < n := unhide HX7
      have q2 : (i : Int) < (n : Int) := by omega
      go_simp
      exact unhide hK _ _ ⟨u0, u1, u2, u3, u4, true, true, true, u8, u9, u10, false, ra, rb, rfl, rfl, zu kB, zu kx4, zu kx9, zu l2, zu l3, zu l4, (fun _ => ⟨rfl, rfl⟩), (fun h => rfl), zu l9, zu l10, zf⟩
    · intro h0 hd K hK
      have z : u8 = false := h0
      have z11_ : u11 = false := znb fun hu => z.symm.trans ((zu kF hu).2.2.2.2.2.2.2.2.1)
      have zd : u7 = true := by
        simp [Region.binds] at hd
        simp [hd]
      obtain ⟨rfl⟩ := zd
      subst z11_
      subst z
      clear h0 hd
      rw [if_pos (by rfl)]
      have c0 := keep1 (zu kB) (unhide HC1)
      go_simp
      exact unhide hK _ _ ⟨u0, u1, u2, u3, u4, u5, u6, true, true, u9, u10, false, ra, rb, rfl, rfl, zu kB, zu kx4, zu kx9, zu l2, zu l3, zu l4, zu l7, (fun _ => rfl), (fun h => rfl), zu l10, zf⟩
    · intro h0 hd K hK
      have z : u9 = false := h0
      have z11_ : u11 = false := znb fun hu => z.symm.trans ((zu kF hu).2.2.2.2.2.2.2.2.2.1)
      have zd : u8 = true := by
        simp [Region.binds] at hd
        simp [hd]
      obtain ⟨rfl⟩ := zd
      subst z11_
      subst z
      clear h0 hd
      rw [if_pos (by rfl)]
      obtain ⟨rb_, n_, hrun_, hq_⟩ := wid_run y0 W
      have hr_ : Fv .f64 rb_ = Fa := (by rw [hq_]; exact unhide HTrb)
      clear hq_
      go_simp
      exact unhide hK _ _ ⟨u0, u1, u2, u3, u4, u5, u6, u7, true, true, u10, false, ra, rb_, rfl, rfl, bel_dn' (zu kB) _, zu kx4, (fun _ => hr_), zu l2, zu l3, zu l4, zu l7, zu l8, (fun _ => rfl), (fun h => ⟨(zu l10 h).1, rfl⟩), zf⟩
    · intro h0 hd K hK
      have z : u10 = false := h0
      have z11_ : u11 = false := znb fun hu => z.symm.trans ((zu kF hu).2.2.2.2.2.2.2.2.2.2)
      have zd : u4 = true ∧ u9 = true := by
        simp [Region.binds] at hd
        simp [hd]
      obtain ⟨rfl, rfl⟩ := zd
      subst z11_
      subst z
      clear h0 hd
      rw [if_pos (by rfl)]
      go_simp
      refine (unhide HF10 _ (zu kx4 rfl) _ (zu kx9 rfl) W (zu kB)).mono ?_
      rintro e w8 ⟨rfl, hb8⟩
      exact unhide hK _ _ ⟨u0, u1, u2, u3, true, u5, u6, u7, u8, true, true, false, ra, rb, rfl, rfl, bc (zu kB) hb8, zu kx4, zu kx9, zu l2, zu l3, zu l4, zu l7, zu l8, zu l9, (fun _ => ⟨rfl, rfl⟩), zf⟩
    · intro h0 hd K hK
      have z : u11 = false := h0
      have zd0 : u10 = true := by
        simp [Region.binds] at hd
        simp [hd]
      have zd : u10 = true ∧ u0 = true ∧ u1 = true ∧ u2 = true ∧ u3 = true ∧ u4 = true ∧ u5 = true ∧ u6 = true ∧ u7 = true ∧ u8 = true ∧ u9 = true := ⟨zd0, (zu l2 (zu l3 (zu l4 (zu l10 zd0).1))).1, (zu l2 (zu l3 (zu l4 (zu l10 zd0).1))).2, (zu l3 (zu l4 (zu l10 zd0).1)), (zu l4 (zu l10 zd0).1), (zu l10 zd0).1, (zu l7 (zu l8 (zu l9 (zu l10 zd0).2))).1, (zu l7 (zu l8 (zu l9 (zu l10 zd0).2))).2, (zu l8 (zu l9 (zu l10 zd0).2)), (zu l9 (zu l10 zd0).2), (zu l10 zd0).2⟩
      obtain ⟨rfl, rfl, rfl, rfl, rfl, rfl, rfl, rfl, rfl, rfl, rfl⟩ := zd
      subst z
      clear h0 hd
      rw [if_pos (by rfl)]
      go_simp
      exact unhide hK _ _ ⟨true, true, true, true, true, true, true, true, true, true, true, true, ra, rb, rfl, rfl, zu kB, zu kx4, zu kx9, (fun _ => ⟨rfl, rfl⟩), (fun _ => rfl), (fun _ => rfl), (fun _ => ⟨rfl, rfl⟩), (fun _ => rfl), (fun _ => rfl), (fun _ => ⟨rfl, rfl⟩), (fun _ => ⟨rfl, rfl, rfl, rfl, rfl, rfl, rfl, rfl, rfl, rfl, rfl⟩)⟩
  case hend =>
    intro Lb A W hI
    obtain ⟨u0, u1, u2, u3, u4, hI⟩ := hI
    obtain ⟨u5, u6, u7, u8, u9, hI⟩ := hI
    obtain ⟨u10, u11, ra, rb, hI⟩ := hI
    obtain ⟨hLb, hI⟩ := hI
    obtain ⟨hA, hI⟩ := hI
    obtain ⟨kB, hI⟩ := hI
    obtain ⟨kx4, hI⟩ := hI
    obtain ⟨kx9, hI⟩ := hI
    obtain ⟨l2, hI⟩ := hI
    obtain ⟨l3, hI⟩ := hI
    obtain ⟨l4, hI⟩ := hI
    obtain ⟨l7, hI⟩ := hI
    obtain ⟨l8, hI⟩ := hI
    obtain ⟨l9, hI⟩ := hI
    obtain ⟨l10, hI⟩ := hI
    have kF := hI
    clear hI
    subst hLb
    subst hA
    intro hL
    have hl : u0 = true ∧ u1 = true ∧ u2 = true ∧ u3 = true ∧ u4 = true ∧ u5 = true ∧ u6 = true ∧ u7 = true ∧ u8 = true ∧ u9 = true ∧ u10 = true ∧ u11 = true := by
      have h2 := congrArg Array.toList hL
      simpa [List.replicate] using h2
    obtain ⟨rfl, rfl, rfl, rfl, rfl, rfl, rfl, rfl, rfl, rfl, rfl, rfl⟩ := hl
    exact unhide HQ  ra rb W kB (kx4 rfl) (kx9 rfl)


set_option maxHeartbeats 1000000 in
theorem s1_same (u v : Option Addr) (p po q qo n cu cv : Nat) (L M : List Nat) (w : World) (hl : L.length = n) (hm : L.map (Fv .f32) = M.map (Fv .f32)) (hn : n ≤ 4611686018427387904)
    (hu : Fls .f32 w u p po L) (hv : Fls .f32 w v q qo M) :
    Calls Try.prog 32 #[.slice u n cu, .slice v n cv] w fun e w' => e = .returned (.bool true) ∧ Below w.heap.size w w' := by
  have HU := hide hu
  have HV := hide hv
  have HL := hide hl
  have HM := hide hm
  have nn : ((n : Int) != (n : Int)) = false := by simp
  clear hu hv hl hm
  go_enter Try.func32, Try.ntmps32
  go_wp2
  go_loopw [5] (fun s W => ∃ i : Nat, s = .int .i64 (i : Int) ∧ i ≤ n ∧ Below w.heap.size w W) (fun s _ => n - (intOf s).toNat)
  case atStart => exact ⟨0, rfl, Nat.zero_le _, Below.refl _ _⟩
  case round =>
    obtain ⟨i, rfl, hi, hw⟩ := hrel
    have HW := hide hw
    clear hw
    by_cases h : i < n
    · have i1 : (i : Int) < (n : Int) := by omega
      have i0 : (0 : Int) ≤ (i : Int) := Int.natCast_nonneg _
      have iz : decide ((i : Int) < (n : Int)) = true := decide_eq_true i1
      have ku := (unhide HU).bel (unhide HW)
      have kv := (unhide HV).bel (unhide HW)
      obtain ⟨x0, ex0⟩ := get_some (unhide HL) h
      obtain ⟨y0, ey0, hf0⟩ := fv_pair (unhide HM) ex0
      obtain ⟨rfl, pw, k0⟩ := ku.at ex0
      obtain ⟨rfl, qw, l0⟩ := kv.at ey0
      have HF0 := hide hf0
      clear ku kv pw qw ex0 ey0 hf0
      go_wp2_with fail
      refine Go.Code.wp_mono (Only.to (fun _ _ h => h)) (eq6 (Fa := wid (Fv .f32 x0)) (x0 := x0) (y0 := y0) (hide rfl) (hide (by rw [unhide HF0])) (hide k0) (hide l0) (hide h) (hide h) (hide fun ra ha rb hb Xw _ => (same_flt ra rb Xw (ha.trans hb.symm)).mono fun e w' ⟨h1, h2⟩ => ⟨h1, h2.bel⟩) ?_)
      intro ra rb W1 hb1 _ _
      have HB := hide hb1
      clear hb1
      go_wp2_with fail
      go_roundw
      case rel => exact ⟨i + 1, by simp, h, bc (unhide HW) (unhide HB)⟩
      case measure => simp only [intOf]; omega
    · have i1 : ¬ (i : Int) < (n : Int) := by omega
      have iz : decide ((i : Int) < (n : Int)) = false := decide_eq_false i1
      go_wp2_with fail
      go_ret
      exact ⟨rfl, unhide HW⟩

set_option maxHeartbeats 1000000 in
theorem s1_mark (u : Option Addr) (p n cu B : Nat) (L : List Nat) (c : Int) (w : World) (hl : L.length = n) (hn : n ≤ 1048576) (c0 : 0 ≤ c) (c1 : c ≤ 1000000)
    (hu : n ≠ 0 → u = some ⟨p, 0, none⟩ ∧ FRow .f32 w B 41 1 (.slice (some ⟨p, 0, none⟩) n cu) n L) :
    Calls Try.prog 33 #[.slice u n cu, .int .i64 c] w fun e w' => e = .returned (.int .i64 (c + (n : Int))) ∧ (n ≠ 0 → FRow .f32 w' B 41 1 (.slice (some ⟨p, 0, none⟩) n cu) n (fmarks .f32 c (n))) ∧ But p w w' := by
  have HU := hide hu
  have HL := hide hl
  clear hu hl
  go_enter Try.func33, Try.ntmps33
  go_wp2
  go_loopw [1, 5] (fun s t W => ∃ i : Nat, s = .int .i64 (c + (i : Int)) ∧ t = .int .i64 (i : Int) ∧ i ≤ n ∧ (n ≠ 0 → FRow .f32 W B 41 1 (.slice (some ⟨p, 0, none⟩) n cu) n (fmarks .f32 c (i) ++ L.drop (i))) ∧ But p w W) (fun _ s _ => n - (intOf s).toNat)
  case atStart => exact ⟨0, by simp, rfl, Nat.zero_le _, fun hn => by simpa [fmarks, marks] using (unhide HU hn).2, But.refl _ _⟩
  case round =>
    obtain ⟨i, rfl, rfl, hi, hb, hw⟩ := hrel
    have HB := hide hb
    have HW := hide hw
    clear hb hw
    by_cases h : i < n
    · have i1 : (i : Int) < (n : Int) := by omega
      have i0 : (0 : Int) ≤ (i : Int) := Int.natCast_nonneg _
      have iz : decide ((i : Int) < (n : Int)) = true := decide_eq_true i1
      obtain ⟨rfl, _⟩ := unhide HU (by omega)
      have pb := unhide HB (by omega)
      have j0 : i + 0 < L.length := by rw [unhide HL]; exact h
      have k0 : wr.cell? ⟨p, i, none⟩ = some (.float .f32 (L[i + 0]'j0)) := pb.cellAt (fmarks_drop1 c L (i) 0 j0)
      generalize L[i + 0]'j0 = x0 at k0
      have fz : ∀ o, wr.frozen? ⟨p, o, none⟩ = false := pb.frz
      have PB := hide pb
      have J0 := hide j0
      clear pb j0
      go_wp2_with fail
      go_roundw
      case rel =>
        refine ⟨i + 1, by simp only [Value.int.injEq, true_and]; omega, by simp, h, fun _ => ?_, ?_⟩
        · have h1 := (unhide PB).set (i) (by have := unhide HL; have := unhide J0; omega) (floatOfInt .f32 (c + (i : Int)))
          rw [fmarks_step c L (i) (unhide J0) _ (by first | rfl | (congr 1; omega))] at h1
          exact h1
        · exact (unhide HW).setCell _ _
      case measure => simp only [intOf]; omega
    · have i1 : ¬ (i : Int) < (n : Int) := by omega
      have iz : decide ((i : Int) < (n : Int)) = false := decide_eq_false i1
      have en : i = n := by omega
      subst en
      go_wp2_with fail
      go_ret
      refine ⟨rfl, fun hn => ?_, unhide HW⟩
      have h1 := unhide HB hn
      rw [List.drop_eq_nil_of_le (by rw [unhide HL]; omega), List.append_nil] at h1
      exact h1

set_option maxHeartbeats 1000000 in
theorem s1_held (u : Option Addr) (p n cu : Nat) (c : Int) (w : World) (hn : n ≤ 1048576) (c0 : 0 ≤ c) (c1 : c ≤ 1000000)
    (hu : n ≠ 0 → u = some ⟨p, 0, none⟩ ∧ FltsAt .f32 w p 0 (fmarks .f32 c (n))) :
    Calls Try.prog 34 #[.slice u n cu, .int .i64 c] w fun e w' => e = .returned (.int .i64 (c + (n : Int))) ∧ Same w w' := by
  have HU := hide hu
  have ho := fun z : Int => int_neq .f32 z
  clear hu
  go_enter Try.func34, Try.ntmps34
  go_wp2
  go_loopw [1, 5] (fun s t W => ∃ i : Nat, s = .int .i64 (c + (i : Int)) ∧ t = .int .i64 (i : Int) ∧ i ≤ n ∧ Same w W) (fun _ s _ => n - (intOf s).toNat)
  case atStart => exact ⟨0, by simp, rfl, Nat.zero_le _, Same.refl _⟩
  case round =>
    obtain ⟨i, rfl, rfl, hi, hw⟩ := hrel
    have HW := hide hw
    clear hw
    by_cases h : i < n
    · have i1 : (i : Int) < (n : Int) := by omega
      have i0 : (0 : Int) ≤ (i : Int) := Int.natCast_nonneg _
      have iz : decide ((i : Int) < (n : Int)) = true := decide_eq_true i1
      obtain ⟨rfl, pa⟩ := unhide HU (by omega)
      have k0 : wr.cell? ⟨p, i, none⟩ = some (.float .f32 (floatOfInt .f32 (c + (i : Int)))) := by
        have h0 := pa (i) _ (fmarks_at c (n) (i) (h))
        rw [Nat.zero_add] at h0
        rw [show c + (i : Int) = c + ((i : Nat) : Int) by omega, (unhide HW).cell]
        exact h0
      clear pa
      go_wp2_with fail
      go_roundw
      case rel => exact ⟨i + 1, by simp only [Value.int.injEq, true_and]; omega, by simp, h, by repeat (first | exact unhide HW | refine Same.drew ?_)⟩
      case measure => simp only [intOf]; omega
    · have i1 : ¬ (i : Int) < (n : Int) := by omega
      have iz : decide ((i : Int) < (n : Int)) = false := decide_eq_false i1
      have en : i = n := by omega
      subst en
      go_wp2_with fail
      go_ret
      exact ⟨rfl, unhide HW⟩
end Go.Proofs.Ytgocgcnpgmamiaa
