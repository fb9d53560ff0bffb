/-
  No pulse is louder than the loudest one, be it beyond all numbers.
-/
import Derived.Test.YtgocgcnpgmamiaaSwOm
import Derived.Test.YtgocgcnpgmamiaaLdP
namespace Go.Proofs.Ytgocgcnpgmamiaa
open Go.ChangeShapes Go.WideShapes Go.ChangeAt Go.RowKit
set_option linter.unusedVariables false
set_option linter.unusedSimpArgs false

theorem near_any (f : Ieee.Format) (neg : Bool) (mag : Nat) (place : Int) (hm0 : mag ≠ 0) :
    (∃ m' e', f.read (f.nearest neg mag place) = .number neg m' e' ∧ (m' : Rat) * p2 e' = (kpt f neg mag place : Rat) * p2 (lst f mag place)) ∨ f.nearest neg mag place = f.word neg f.infRung := by
  have hb0 : 0 < f.binade := Nat.two_pow_pos _
  have h1 := kpt_le f neg mag place
  have h2 := kpt_ge f neg mag place hm0
  have hll : f.leastPlace ≤ lst f mag place := Int.le_max_right _ _
  unfold Ieee.Format.nearest
  rw [if_neg hm0]
  show (∃ m' e', f.read (f.word neg (min ((lst f mag place - f.leastPlace).toNat * f.binade + kpt f neg mag place) f.infRung)) = .number neg m' e' ∧ _) ∨ f.word neg (min ((lst f mag place - f.leastPlace).toNat * f.binade + kpt f neg mag place) f.infRung) = f.word neg f.infRung
  generalize hk : kpt f neg mag place = k at *
  generalize hl : lst f mag place = l at *
  obtain ⟨q, hq⟩ : ∃ q : Nat, (l - f.leastPlace).toNat = q := ⟨_, rfl⟩
  rw [hq]
  have hlq : l = f.leastPlace + (q : Int) := by omega
  by_cases hlt : q * f.binade + k < f.infRung
  · left
    rw [Nat.min_eq_left (by omega)]
    have hs := f.infRung_lt
    obtain ⟨w1, w2⟩ := word_parts f neg (q * f.binade + k) (by omega)
    unfold Ieee.Format.read
    simp only [w1, w2]
    by_cases hkb : k < f.binade
    · have hq0 : q = 0 := by
        by_cases hq0 : q = 0
        · exact hq0
        · exfalso
          have := h2 (by omega)
          omega
      subst hq0
      rw [if_pos (by omega)]
      refine ⟨_, _, rfl, ?_⟩
      rw [hlq]
      simp
    · rw [if_neg (by omega), if_pos hlt]
      by_cases hk2 : k = 2 * f.binade
      · refine ⟨_, _, rfl, ?_⟩
        have e1 : (q * f.binade + k) % f.binade = 0 := by
          rw [hk2, ← Nat.add_mul]
          exact Nat.mul_mod_left _ _
        have e2 : (q * f.binade + k) / f.binade = q + 2 := by
          rw [hk2, ← Nat.add_mul]
          exact Nat.mul_div_cancel _ hb0
        rw [e1, e2, hk2, hlq, show q + 2 - 1 = q + 1 by omega, Nat.add_zero]
        rw [show f.leastPlace + ((q + 1 : Nat) : Int) = f.leastPlace + (q : Int) + 1 by omega, p2_add (f.leastPlace + (q : Int)) 1]
        have : p2 1 = 2 := rfl
        rw [this]
        simp
        grind
      · refine ⟨_, _, rfl, ?_⟩
        obtain ⟨r, hr⟩ : ∃ r, k = f.binade + r := ⟨k - f.binade, by omega⟩
        have hrb : r < f.binade := by omega
        have e0 : q * f.binade + k = f.binade * (q + 1) + r := by rw [hr, Nat.mul_add, Nat.mul_comm q]; omega
        have e1 : (q * f.binade + k) % f.binade = r := by rw [e0, Nat.mul_add_mod, Nat.mod_eq_of_lt hrb]
        have e2 : (q * f.binade + k) / f.binade = q + 1 := by rw [e0, Nat.mul_add_div hb0, Nat.div_eq_of_lt hrb, Nat.add_zero]
        rw [e1, e2, show q + 1 - 1 = q by omega, ← hr, hlq]
  · right
    rw [Nat.min_eq_right (by omega)]
abbrev rd (x : Nat) : Ieee.Datum := FloatKind.f64.format.read x
/-- without the sign -/
def Pos (x : Nat) : Prop := (∃ m e, rd x = .number false m e) ∨ rd x = .infinity false
/-- at most, be it beyond all numbers -/
def Le (x y : Nat) : Prop := rd y = .infinity false ∨ (isNum .f64 x ∧ isNum .f64 y ∧ val .f64 x ≤ val .f64 y)
theorem inf_read : rd (FloatKind.f64.format.word false FloatKind.f64.format.infRung) = .infinity false := by decide
theorem inf_read2 : rd (FloatKind.f64.format.write (.infinity false)) = .infinity false := by decide
theorem zero_read (e : Int) : rd (FloatKind.f64.format.write (.number false 0 e)) = .number false 0 FloatKind.f64.format.leastPlace := by
  show FloatKind.f64.format.read (FloatKind.f64.format.nearest false 0 e) = _
  unfold Ieee.Format.nearest
  rw [if_pos rfl]
  decide
theorem write_up (m : Nat) (e : Int) : Pos (FloatKind.f64.format.write (.number false m e)) ∧ ∀ y, isNum .f64 y → val .f64 y ≤ (m : Rat) * p2 e → Le y (FloatKind.f64.format.write (.number false m e)) := by
  by_cases hm : m = 0
  · subst hm
    have h := zero_read e
    refine ⟨.inl ⟨_, _, h⟩, fun y hy hv => .inr ⟨hy, ⟨_, _, _, h⟩, ?_⟩⟩
    have : val .f64 (FloatKind.f64.format.write (.number false 0 e)) = 0 := by
      unfold val
      rw [show FloatKind.f64.format.read (FloatKind.f64.format.write (.number false 0 e)) = _ from h]
      simp only [dval]
      grind
    rw [this]
    grind
  · rcases near_any FloatKind.f64.format false m e hm with ⟨m', e', hr, hv⟩ | h
    · have hr2 : rd (FloatKind.f64.format.write (.number false m e)) = .number false m' e' := hr
      refine ⟨.inl ⟨_, _, hr2⟩, fun y hy hy2 => .inr ⟨hy, ⟨_, _, _, hr2⟩, ?_⟩⟩
      have hval : val .f64 (FloatKind.f64.format.write (.number false m e)) = (kpt FloatKind.f64.format false m e : Rat) * p2 (lst FloatKind.f64.format m e) := by
        unfold val
        rw [show FloatKind.f64.format.read (FloatKind.f64.format.write (.number false m e)) = _ from hr2, ← hv]
        simp only [dval, sg]
        grind
      obtain ⟨t, M, E, hry⟩ := hy
      obtain ⟨hM, hE⟩ := read_bounds hry
      have hvy : val .f64 y = sg t * ((M : Rat) * p2 E) := by unfold val; rw [hry]; rfl
      have hM0 : 0 ≤ (M : Rat) * p2 E := Rat.mul_nonneg (by exact_mod_cast Nat.zero_le M) (Rat.le_of_lt (p2_pos E))
      obtain ⟨a1, a2⟩ := mono_mag FloatKind.f64.format false m e hm M E hM hE
      have hK0 : 0 ≤ (kpt FloatKind.f64.format false m e : Rat) * p2 (lst FloatKind.f64.format m e) := Rat.mul_nonneg (by exact_mod_cast Nat.zero_le _) (Rat.le_of_lt (p2_pos _))
      rw [hval, hvy]
      rw [hvy] at hy2
      generalize (kpt FloatKind.f64.format false m e : Rat) * p2 (lst FloatKind.f64.format m e) = Kp at *
      generalize (M : Rat) * p2 E = Y at *
      generalize (m : Rat) * p2 e = X at *
      cases t <;> simp only [sg] at hy2 ⊢ <;> grind
    · have h2 : rd (FloatKind.f64.format.write (.number false m e)) = .infinity false := by
        show FloatKind.f64.format.read (FloatKind.f64.format.nearest false m e) = _
        rw [h]
        exact inf_read
      exact ⟨.inr h2, fun y _ _ => .inl h2⟩
theorem Pos.num {x : Nat} (h : Pos x) : isNum .f64 x ∨ rd x = .infinity false := by
  rcases h with ⟨m, e, h⟩ | h
  · exact .inl ⟨_, _, _, h⟩
  · exact .inr h
theorem inf_not {x : Nat} (h : isNum .f64 x) (h2 : rd x = .infinity false) : False := by
  obtain ⟨s, m, e, h⟩ := h
  have h3 : FloatKind.f64.format.read x = .infinity false := h2
  rw [h] at h3
  cases h3
theorem Le.trans {x y z : Nat} (h : Le x y) (k : Le y z) : Le x z := by
  rcases k with k | ⟨k1, k2, k3⟩
  · exact .inl k
  · rcases h with h | ⟨h1, h2, h3⟩
    · exact (inf_not k1 h).elim
    · exact .inr ⟨h1, k2, Rat.le_trans h3 k3⟩
theorem Le.refl {x : Nat} (h : Pos x) : Le x x := by
  rcases h.num with h | h
  · exact .inr ⟨h, h, Rat.le_refl⟩
  · exact .inl h
theorem ord_rd (x y : Nat) : FloatKind.f64.format.order x y = (rd x).order (rd y) := rfl
theorem le_of_not {x y : Nat} (hx : Pos x) (hy : Pos y) (h : FloatKind.f64.format.order x y ≠ some .gt) : Le x y := by
  rcases hy.num with hy | hy
  · rcases hx with ⟨m, e, hx⟩ | hx
    · have nx : isNum .f64 x := ⟨_, _, _, hx⟩
      refine .inr ⟨nx, hy, ?_⟩
      rw [order_val nx hy] at h
      by_cases h1 : val .f64 x < val .f64 y
      · grind
      · rw [if_neg h1] at h
        by_cases h2 : val .f64 x = val .f64 y
        · grind
        · rw [if_neg h2] at h; exact absurd rfl h
    · obtain ⟨s, m, e, hy⟩ := hy
      rw [ord_rd, hx, show rd y = _ from hy] at h
      exact absurd rfl h
  · exact .inl hy
theorem le_of_gt {x y : Nat} (hx : Pos x) (hy : Pos y) (h : FloatKind.f64.format.order x y = some .gt) : Le y x := by
  rcases hx.num with hx | hx
  · rcases hy.num with hy | hy
    · refine .inr ⟨hy, hx, ?_⟩
      rw [order_val hx hy] at h
      by_cases h1 : val .f64 x < val .f64 y
      · rw [if_pos h1] at h; cases h
      · grind
    · obtain ⟨s, m, e, hx⟩ := hx
      rw [ord_rd, hy, show rd x = _ from hx] at h
      cases h
  · exact .inl hx
theorem not_gt {x y : Nat} (hx : Pos x) (h : Le x y) : FloatKind.f64.format.order x y ≠ some .gt := by
  rcases h with h | ⟨h1, h2, h3⟩
  · rcases hx with ⟨m, e, hx⟩ | hx
    · rw [ord_rd, h, hx]; intro h; cases h
    · rw [ord_rd, h, hx]; intro h; cases h
  · rw [order_val h1 h2]
    by_cases h4 : val .f64 x < val .f64 y
    · rw [if_pos h4]; intro h; cases h
    · rw [if_neg h4, if_pos (by grind)]; intro h; cases h
theorem sq_pos {a A : Nat} (h : floatBits .mul .f64 a a = some A) : Pos A := by
  simp only [floatBits, Ieee.Format.mul] at h
  cases hr : FloatKind.f64.format.read a with
  | number s m e =>
    rw [hr] at h
    simp only [Ieee.Datum.product, Option.map_some, Option.some.injEq, Bool.xor_self] at h
    rw [← h]
    exact (write_up _ _).1
  | infinity s =>
    rw [hr] at h
    simp only [Ieee.Datum.product, Option.map_some, Option.some.injEq, Bool.xor_self] at h
    rw [← h]
    exact .inr inf_read2
  | nan _ _ => rw [hr] at h; simp [Ieee.Datum.product] at h
theorem signed_nn (m k : Nat) : 0 ≤ Ieee.signed false m k := by
  unfold Ieee.signed
  rw [if_neg (by simp)]
  exact Int.natCast_nonneg _
theorem add_pos {a b r : Nat} (ha : Pos a) (hb : Pos b) (h : floatBits .add .f64 a b = some r) : Pos r ∧ Le a r := by
  simp only [floatBits, Ieee.Format.add] at h
  rcases ha with ⟨m, e, ha⟩ | ha
  · rcases hb with ⟨n, j, hb⟩ | hb
    · rw [show FloatKind.f64.format.read a = _ from ha, show FloatKind.f64.format.read b = _ from hb] at h
      obtain ⟨s', m', e', hs, hv⟩ := sum_val (a := .number false m e) (b := .number false n j) rfl rfl
      rw [hs] at h
      simp only [Option.map_some, Option.some.injEq] at h
      have hs' : s' = false := by
        simp only [Ieee.Datum.sum, Option.some.injEq, Ieee.Datum.number.injEq] at hs
        rw [← hs.1]
        have h1 := signed_nn m (e - min e j).toNat
        have h2 := signed_nn n (j - min e j).toNat
        split
        · rfl
        · exact decide_eq_false (by omega)
      subst hs'
      rw [← h]
      obtain ⟨w1, w2⟩ := write_up m' e'
      refine ⟨w1, w2 a ⟨_, _, _, ha⟩ ?_⟩
      have hva : val .f64 a = (m : Rat) * p2 e := by unfold val; rw [show FloatKind.f64.format.read a = _ from ha]; simp only [dval, sg]; grind
      have hn0 : 0 ≤ (n : Rat) * p2 j := Rat.mul_nonneg (by exact_mod_cast Nat.zero_le n) (Rat.le_of_lt (p2_pos j))
      simp only [dval, sg] at hv
      rw [hva]
      grind
    · rw [show FloatKind.f64.format.read a = _ from ha, show FloatKind.f64.format.read b = _ from hb] at h
      simp only [Ieee.Datum.sum, Option.map_some, Option.some.injEq] at h
      rw [← h]
      exact ⟨.inr inf_read2, .inl inf_read2⟩
  · have hr : r = FloatKind.f64.format.write (.infinity false) := by
      rcases hb with ⟨n, j, hb⟩ | hb <;> rw [show FloatKind.f64.format.read a = _ from ha, show FloatKind.f64.format.read b = _ from hb] at h <;> simp [Ieee.Datum.sum] at h <;> exact h.symm
    rw [hr]
    exact ⟨.inr inf_read2, .inl inf_read2⟩
theorem mul_up {a r : Nat} (ha : Pos a) (h : floatBits .mul .f64 a 4607182423303617035 = some r) : Pos r ∧ Le a r := by
  have hc : FloatKind.f64.format.read 4607182423303617035 = .number false 4503604130970123 (-52) := by decide
  simp only [floatBits, Ieee.Format.mul] at h
  rw [hc] at h
  rcases ha with ⟨m, e, ha⟩ | ha
  · rw [show FloatKind.f64.format.read a = _ from ha] at h
    simp only [Ieee.Datum.product, Option.map_some, Option.some.injEq, Bool.xor_self] at h
    rw [← h]
    obtain ⟨w1, w2⟩ := write_up (m * 4503604130970123) (e + -52)
    refine ⟨w1, w2 a ⟨_, _, _, ha⟩ ?_⟩
    have hva : val .f64 a = (m : Rat) * p2 e := by unfold val; rw [show FloatKind.f64.format.read a = _ from ha]; simp only [dval, sg]; grind
    rw [hva, p2_add]
    have hm0 : 0 ≤ (m : Rat) * p2 e := Rat.mul_nonneg (by exact_mod_cast Nat.zero_le m) (Rat.le_of_lt (p2_pos e))
    have hp : p2 (-52) * 4503599627370496 = 1 := by
      have := p2_add (-52) 52
      rw [show (-52 : Int) + 52 = 0 from rfl] at this
      have h0 : p2 0 = 1 := rfl
      have h1 : p2 52 = 4503599627370496 := by rw [show (52 : Int) = ((52 : Nat) : Int) from rfl, p2_nat]; rfl
      rw [h0, h1] at this
      exact this.symm
    have e3 : ((m * 4503604130970123 : Nat) : Rat) = (m : Rat) * 4503604130970123 := by simp
    rw [e3]
    have hpp := p2_pos (-52)
    have key : (m : Rat) * p2 e * (p2 (-52) * 4503599627370496) ≤ (m : Rat) * p2 e * (p2 (-52) * 4503604130970123) := Rat.mul_le_mul_of_nonneg_left (by grind) hm0
    rw [hp] at key
    grind
  · rw [show FloatKind.f64.format.read a = _ from ha] at h
    simp [Ieee.Datum.product] at h
    rw [← h]
    exact ⟨.inr inf_read2, .inl inf_read2⟩
theorem num_12 : Pos 4427486594234968593 := .inl ⟨_, _, rfl⟩
theorem lod_pos {n : Nat} {L : List Nat} {x r : Nat} (h : lod n L x = some r) : Pos r := by
  unfold lod tsq fa fm at h
  cases h1 : (swf L x (n - 1) 0).1 with
  | none => rw [h1] at h; simp [fop] at h
  | some a =>
    cases h2 : (swf L x (n - 1) 0).2 with
    | none => rw [h1, h2] at h; simp [fop] at h
    | some b =>
      rw [h1, h2] at h
      simp only [fop] at h
      cases hA : floatBits .mul .f64 a a with
      | none => rw [hA] at h; simp at h
      | some A =>
        cases hB : floatBits .mul .f64 b b with
        | none => rw [hA, hB] at h; simp at h
        | some B =>
          rw [hA, hB] at h
          exact (add_pos (sq_pos hA) (sq_pos hB) h).1
theorem ld_le {n : Nat} {L P : List Nat} (m : Nat) (h : (ldG n L P m).1 = 0) : (∀ b, 1 ≤ m → (ldG n L P m).2.2 = some b → Pos b) ∧ ∀ i s b, i < m → lod n L (P.getD i 0) = some s → (ldG n L P m).2.2 = some b → Le s b := by
  induction m with
  | zero => exact ⟨fun b h => by omega, fun i s b h => by omega⟩
  | succ m ih =>
    rw [ldG_succ] at h ⊢
    by_cases h0 : (ldG n L P m).1 = 0
    · obtain ⟨i1, i2⟩ := ih h0
      rw [if_pos h0] at h ⊢
      by_cases hc : swC n L (P.getD m 0) = 0
      · rw [if_pos hc] at h ⊢
        by_cases ht : (m == 0 || ford .f64 (lod n L (P.getD m 0)) (ldG n L P m).2.2 == some .gt) = true
        · rw [if_pos ht] at h ⊢
          refine ⟨fun b _ hb => lod_pos hb, fun i s b hi hs hb => ?_⟩
          simp only at hb
          by_cases him : i = m
          · subst him
            rw [hs] at hb
            cases hb
            exact Le.refl (lod_pos hs)
          · have hm0 : (m == 0) = false := by simp; omega
            rw [hm0, Bool.false_or, hb] at ht
            cases hl : (ldG n L P m).2.2 with
            | none => rw [hl] at ht; simp [ford] at ht
            | some b0 =>
              rw [hl] at ht
              have hgt : FloatKind.f64.format.order b b0 = some .gt := by simpa [ford] using ht
              exact (i2 i s b0 (by omega) hs hl).trans (le_of_gt (lod_pos hb) (i1 b0 (by omega) hl) hgt)
        · rw [if_neg ht] at h ⊢
          have hm0 : m ≠ 0 := by intro h; apply ht; simp [h]
          refine ⟨fun b _ hb => i1 b (by omega) hb, fun i s b hi hs hb => ?_⟩
          by_cases him : i = m
          · subst him
            refine le_of_not (lod_pos hs) (i1 b (by omega) hb) ?_
            intro hgt
            apply ht
            rw [hs, hb]
            simp [ford, hgt]
          · exact i2 i s b (by omega) hs hb
      · rw [if_neg hc] at h
        exact absurd h hc
    · rw [if_neg h0] at h
      exact absurd h h0
theorem loud_ok {n : Nat} {L P : List Nat} {m i s b p t : Nat} (h : (ldG n L P m).1 = 0) (hi : i < m) (hs : Fv .f64 s = lod n L (P.getD i 0)) (hb : Fv .f64 b = (ldG n L P m).2.2) (hp : Fv .f64 p = fop .mul .f64 (Fv .f64 b) (Fv .f64 4607182423303617035)) (ht : Fv .f64 t = fop .add .f64 (Fv .f64 p) (Fv .f64 4427486594234968593)) :
    (FloatKind.f64.format.order s t == some .gt) = false := by
  obtain ⟨i1, i2⟩ := ld_le m h
  rw [order_fv]
  rcases fv_cases .f64 s with es | es
  · rcases fv_cases .f64 b with eb | eb
    · have hs2 := hs.symm.trans es
      have hb2 := hb.symm.trans eb
      have hle := i2 i s b hi hs2 hb2
      have pb := i1 b (by omega) hb2
      have ec : Fv .f64 4607182423303617035 = some 4607182423303617035 := rfl
      have ed : Fv .f64 4427486594234968593 = some 4427486594234968593 := rfl
      rw [eb, ec] at hp
      simp only [fop] at hp
      rcases fv_cases .f64 p with ep | ep
      · rw [ep] at hp
        obtain ⟨pp, lp⟩ := mul_up pb hp.symm
        rw [ep, ed] at ht
        simp only [fop] at ht
        rcases fv_cases .f64 t with et | et
        · rw [et] at ht
          obtain ⟨pt, lt⟩ := add_pos pp num_12 ht.symm
          have := not_gt (lod_pos hs2) (hle.trans (lp.trans lt))
          rw [es, et]
          simp only [ford]
          cases ho : FloatKind.f64.format.order s t with
          | none => rfl
          | some o =>
            cases o with
            | gt => exact absurd ho this
            | lt => rfl
            | eq => rfl
        · rw [es, et]; rfl
      · rw [ep] at ht
        have : Fv .f64 t = none := by rw [ht]; rfl
        rw [es, this]; rfl
    · have : Fv .f64 t = none := by
        rw [ht, hp, eb]; rfl
      rw [es, this]; rfl
  · rw [es]; rfl
end Go.Proofs.Ytgocgcnpgmamiaa
