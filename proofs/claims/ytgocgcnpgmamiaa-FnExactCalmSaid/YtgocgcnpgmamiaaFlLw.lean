/-
  What the laws ask of rows of floating numbers and of tones.
-/
import Derived.Test.YtgocgcnpgmamiaaFlOk
namespace Go.Proofs.Ytgocgcnpgmamiaa
open Go.ChangeShapes Go.WideShapes Go.ChangeAt Go.RowKit
set_option linter.unusedVariables false
set_option linter.unusedSimpArgs false
attribute [local go_sem] run_store_flt run_store_cpx

theorem fv_pair {fk : FloatKind} {L M : List Nat} (h : L.map (Fv fk) = M.map (Fv fk)) {i x : Nat} (hx : L[i]? = some x) : ∃ y, M[i]? = some y ∧ Fv fk x = Fv fk y := by
  have h1 : (L.map (Fv fk))[i]? = some (Fv fk x) := by rw [List.getElem?_map, hx]; rfl
  rw [h, List.getElem?_map] at h1
  obtain ⟨y, hy, e⟩ := map_some' h1
  exact ⟨y, hy, e.symm⟩
theorem order_self' (d : Ieee.Datum) (h : d.isNaN = false) : d.order d = some .eq := by
  cases d with
  | number s m e => simp only [Ieee.Datum.order, Option.some.injEq]; exact Std.ReflCmp.compare_self
  | infinity s => simp [Ieee.Datum.order]
  | nan s f => simp [Ieee.Datum.isNaN] at h
theorem order_self {fk : FloatKind} {x : Nat} (h : Fv fk x = some x) : fk.format.order x x = some .eq := by
  refine order_self' _ ?_
  unfold Fv at h
  split at h
  · cases h
  · rename_i hn; simpa using hn
theorem int_num (fk : FloatKind) (z : Int) : Fv fk (floatOfInt fk z) = some (floatOfInt fk z) := fv_some (read_write fk.format (.number (z < 0) z.natAbs 0) rfl)
theorem int_neq (fk : FloatKind) (z : Int) : (fk.format.order (floatOfInt fk z) (floatOfInt fk z) != some .eq) = false := by rw [order_self (int_num fk z)]; rfl
theorem order_nan' {fk : FloatKind} {x : Nat} (h : Fv fk x = none) (y : Nat) : fk.format.order x y = none := by rw [order_fv, h]; rfl
set_option maxHeartbeats 1000000 in
theorem same_flt (a b : Nat) (w : World) (h : Fv .f64 a = Fv .f64 b) : Calls Try.prog 35 #[.float .f64 a, .float .f64 b] w fun e w' => e = .returned (.bool true) ∧ Same w w' := by
  rcases fv_cases .f64 a with ha | ha
  · have hb : b = a := by
      rcases fv_cases .f64 b with hb | hb
      · rw [ha, hb] at h; exact (Option.some.inj h).symm
      · rw [ha, hb] at h; cases h
    subst hb
    have o1 := order_self ha
    have o2 : (FloatKind.f64.format.order b b != some .eq) = false := by rw [o1]; rfl
    cases hz : (FloatKind.f64.format.order b 0 == some .eq) with
    | true =>
      have hq : ∃ r, floatBits .quo .f64 4607182418800017408 b = some r := by
        cases hd : FloatKind.f64.format.read b with
        | number s m e =>
          have h1 : FloatKind.f64.format.read 4607182418800017408 = .number false 4503599627370496 (-52) := rfl
          simp only [floatBits, Ieee.Format.div, hd, h1, Ieee.Datum.quotient]
          by_cases hm : m = 0
          · rw [if_pos hm, if_neg (by omega)]; exact ⟨_, rfl⟩
          · rw [if_neg hm]; exact ⟨_, rfl⟩
        | infinity s =>
          have h1 : FloatKind.f64.format.read 4607182418800017408 = .number false 4503599627370496 (-52) := rfl
          simp only [floatBits, Ieee.Format.div, hd, h1, Ieee.Datum.quotient]
          exact ⟨_, rfl⟩
        | nan s f =>
          have := order_nan (a := FloatKind.f64.format.read b) (b := FloatKind.f64.format.read 0) (.inl (by rw [hd]; rfl))
          rw [show FloatKind.f64.format.order b 0 = none from this] at hz
          cases hz
      obtain ⟨r, hr⟩ := hq
      have hrun := fun W => run_float_arith (P := Try.prog) W .quo 28 .f64 _ _ r hr
      clear o1 ha h hr
      go_enter Try.func35, Try.ntmps35
      go_wp2
      go_ret
      exact ⟨by simp, Same.refl _⟩
    | false =>
      have o3 : (FloatKind.f64.format.order b b == some .eq) = true := by rw [o1]; rfl
      clear o1 ha h
      go_enter Try.func35, Try.ntmps35
      go_wp2
      go_ret
      exact ⟨by simp [*], Same.refl _⟩
  · have hb : Fv .f64 b = none := by rw [← h]; exact ha
    have o1 : (FloatKind.f64.format.order a a != some .eq) = true := by rw [order_nan' ha]; rfl
    have o2 : (FloatKind.f64.format.order b b != some .eq) = true := by rw [order_nan' hb]; rfl
    go_enter Try.func35, Try.ntmps35
    go_wp2
    go_ret
    exact ⟨by simp [*], Same.refl _⟩
theorem f1E_one (x0 y0 : Nat) (w : World) (h0 : Fv .f64 x0 = Fv .f64 y0) : Calls Try.prog 35 #[.float .f64 x0, .float .f64 y0] w fun e w' => e = .returned (.bool true) ∧ Below w.heap.size w w' := (same_flt x0 y0 w h0).mono fun e w' ⟨h1, h2⟩ => ⟨h1, h2.bel⟩

theorem f1_info : (Try.prog.info? 28).map (fun i => (i.zero, i.size, i.bytes)) = some (some (.float .f64 0), 1, 8) := by kernel_rfl
set_option maxHeartbeats 1000000 in
theorem f1_to (u : Option Addr) (p po n cu : Nat) (L : List Nat) (w : World) (hl : L.length = n) (hn : n ≤ 1048576) (hu : Fls .f64 w u p po L) :
    Calls Try.prog 28 #[.slice u n cu] w fun e w' => (∃ g, e = .returned (.slice (some ⟨g, 0, none⟩) n n) ∧ w.heap.size ≤ g ∧ fblk .f64 w' g 28 L) ∧ Below w.heap.size w w' := by
  have HU := hide hu
  have HL := hide hl
  clear hu hl
  have hmk := fun W => make_flts (fk := .f64) (P := Try.prog) 35 28 1 8 n Try.underlying35 (.float .f64 0) (by rfl) (by omega) f1_info (by omega) (by omega) W
  generalize hzz : fzeros (n * 1) = Z at hmk
  have HZ := hide hzz
  clear hzz
  go_enter Try.func28, Try.ntmps28
  go_wp2_with fail
  have HG := hide (fblk_new (fk := .f64) w 28 Z)
  have HB0 := hide (ba (Below.refl w.heap.size w) (.cells (Z.map (Value.float .f64)).toArray 28))
  clear hmk
  go_loopw [4] (fun s W => ∃ i : Nat, s = .int .i64 (i : Int) ∧ i ≤ n ∧ fblk .f64 W w.heap.size 28 (L.take (i) ++ fzeros (L.length - i)) ∧ Below w.heap.size w W) (fun s _ => n - (intOf s).toNat)
  case atStart =>
    refine ⟨0, rfl, Nat.zero_le _, ?_, unhide HB0⟩
    have e : L.take (0) ++ fzeros (L.length - 0) = Z := by rw [unhide HL, ← unhide HZ]; simp
    rw [e]
    exact unhide HG
  case round =>
    obtain ⟨i, rfl, hi, hb, hw⟩ := hrel
    have HB := hide hb
    have HW := hide hw
    clear hb hw HG HB0
    by_cases h : i < n
    · have i1 : (i : Int) < (n : Int) := by omega
      have i0 : (0 : Int) ≤ (i : Int) := Int.natCast_nonneg _
      have iz : decide ((i : Int) < (n : Int)) = true := decide_eq_true i1
      have ku := (unhide HU).bel (unhide HW)
      obtain ⟨x0, ex0⟩ := get_some (unhide HL) h
      obtain ⟨rfl, pw, k0⟩ := ku.at ex0
      have E0 := hide ex0
      have pb := unhide HB
      have HW1 := HW
      have j0 : i + 0 < L.length := by rw [unhide HL]; exact h
      have m0 : wr.cell? ⟨w.heap.size, i, none⟩ = some (.float .f64 0) := pb.cell (ffill_at L (i) 0 j0)
      have fz : ∀ o, wr.frozen? ⟨w.heap.size, o, none⟩ = false := pb.frozen
      have lg := pb.lt
      have PB := hide pb
      have J0 := hide j0
      clear ku pw pb ex0 j0
      go_wp2_with fail
      go_roundw
      case rel =>
        refine ⟨i + 1, by simp, h, ?_, ?_⟩
        · have h1 := (unhide PB).set (i) x0
          rw [ffill_step L (i) (unhide J0) _ (unhide E0)] at h1
          exact h1
        · exact bs (unhide HW1) (Nat.le_refl _)
      case measure => simp only [intOf]; omega
    · have i1 : ¬ (i : Int) < (n : Int) := by omega
      have iz : decide ((i : Int) < (n : Int)) = false := decide_eq_false i1
      have en : i = n := by omega
      subst en
      go_wp2_with fail
      go_ret
      refine ⟨⟨_, rfl, Nat.le_refl _, ?_⟩, unhide HW⟩
      have h1 := unhide HB
      rw [List.take_of_length_le (by rw [unhide HL]; omega), show L.length - i = 0 by rw [unhide HL]; omega] at h1
      simpa [fzeros] using h1

set_option maxHeartbeats 1000000 in
theorem f1_same (u v : Option Addr) (p po q qo n cu cv : Nat) (L M : List Nat) (w : World) (hl : L.length = n) (hm : L.map (Fv .f64) = M.map (Fv .f64)) (hn : n ≤ 4611686018427387904)
    (hu : Fls .f64 w u p po L) (hv : Fls .f64 w v q qo M) :
    Calls Try.prog 29 #[.slice u n cu, .slice v n cv] w fun e w' => e = .returned (.bool true) ∧ Below w.heap.size w w' := by
  have HU := hide hu
  have HV := hide hv
  have HL := hide hl
  have HM := hide hm
  have nn : ((n : Int) != (n : Int)) = false := by simp
  clear hu hv hl hm
  go_enter Try.func29, Try.ntmps29
  go_wp2
  go_loopw [5] (fun s W => ∃ i : Nat, s = .int .i64 (i : Int) ∧ i ≤ n ∧ Below w.heap.size w W) (fun s _ => n - (intOf s).toNat)
  case atStart => exact ⟨0, rfl, Nat.zero_le _, Below.refl _ _⟩
  case round =>
    obtain ⟨i, rfl, hi, hw⟩ := hrel
    have HW := hide hw
    clear hw
    by_cases h : i < n
    · have i1 : (i : Int) < (n : Int) := by omega
      have i0 : (0 : Int) ≤ (i : Int) := Int.natCast_nonneg _
      have iz : decide ((i : Int) < (n : Int)) = true := decide_eq_true i1
      have ku := (unhide HU).bel (unhide HW)
      have kv := (unhide HV).bel (unhide HW)
      obtain ⟨x0, ex0⟩ := get_some (unhide HL) h
      obtain ⟨y0, ey0, hf0⟩ := fv_pair (unhide HM) ex0
      obtain ⟨rfl, pw, k0⟩ := ku.at ex0
      obtain ⟨rfl, qw, l0⟩ := kv.at ey0
      have HF0 := hide hf0
      clear ku kv pw qw ex0 ey0 hf0
      go_wp2_with fail
      go_region_held3 (fun wx => wx.cell? ⟨p, po + i, none⟩ = some (.float .f64 x0) ∧ wx.cell? ⟨q, qo + i, none⟩ = some (.float .f64 y0))
        (simp (maxDischargeDepth := 12) [go_sem, le1, lt1, *])
        (first
        | (go_at_call 35; refine (f1E_one _ _ _ (unhide HF0)).mono ?_; rintro e w' ⟨rfl, hb⟩; have HB := hide hb; have c0 := keep1 hb (b := p) (o := _) (v := .float .f64 x0) k0; have d0 := keep1 hb (b := q) (o := _) (v := .float .f64 y0) l0; clear hb))
      all_goals
        go_wp2_with fail
        go_roundw
        case rel => exact ⟨i + 1, by simp, h, by repeat (first | exact unhide HW | refine bc ?_ (unhide HB) | refine Below.drew ?_)⟩
        case measure => simp only [intOf]; omega
    · have i1 : ¬ (i : Int) < (n : Int) := by omega
      have iz : decide ((i : Int) < (n : Int)) = false := decide_eq_false i1
      go_wp2_with fail
      go_ret
      exact ⟨rfl, unhide HW⟩

set_option maxHeartbeats 1000000 in
theorem f1_mark (u : Option Addr) (p n cu B : Nat) (L : List Nat) (c : Int) (w : World) (hl : L.length = n) (hn : n ≤ 1048576) (c0 : 0 ≤ c) (c1 : c ≤ 1000000)
    (hu : n ≠ 0 → u = some ⟨p, 0, none⟩ ∧ FRow .f64 w B 28 1 (.slice (some ⟨p, 0, none⟩) n cu) n L) :
    Calls Try.prog 30 #[.slice u n cu, .int .i64 c] w fun e w' => e = .returned (.int .i64 (c + (n : Int))) ∧ (n ≠ 0 → FRow .f64 w' B 28 1 (.slice (some ⟨p, 0, none⟩) n cu) n (fmarks .f64 c (n))) ∧ But p w w' := by
  have HU := hide hu
  have HL := hide hl
  clear hu hl
  go_enter Try.func30, Try.ntmps30
  go_wp2
  go_loopw [1, 5] (fun s t W => ∃ i : Nat, s = .int .i64 (c + (i : Int)) ∧ t = .int .i64 (i : Int) ∧ i ≤ n ∧ (n ≠ 0 → FRow .f64 W B 28 1 (.slice (some ⟨p, 0, none⟩) n cu) n (fmarks .f64 c (i) ++ L.drop (i))) ∧ But p w W) (fun _ s _ => n - (intOf s).toNat)
  case atStart => exact ⟨0, by simp, rfl, Nat.zero_le _, fun hn => by simpa [fmarks, marks] using (unhide HU hn).2, But.refl _ _⟩
  case round =>
    obtain ⟨i, rfl, rfl, hi, hb, hw⟩ := hrel
    have HB := hide hb
    have HW := hide hw
    clear hb hw
    by_cases h : i < n
    · have i1 : (i : Int) < (n : Int) := by omega
      have i0 : (0 : Int) ≤ (i : Int) := Int.natCast_nonneg _
      have iz : decide ((i : Int) < (n : Int)) = true := decide_eq_true i1
      obtain ⟨rfl, _⟩ := unhide HU (by omega)
      have pb := unhide HB (by omega)
      have j0 : i + 0 < L.length := by rw [unhide HL]; exact h
      have k0 : wr.cell? ⟨p, i, none⟩ = some (.float .f64 (L[i + 0]'j0)) := pb.cellAt (fmarks_drop1 c L (i) 0 j0)
      generalize L[i + 0]'j0 = x0 at k0
      have fz : ∀ o, wr.frozen? ⟨p, o, none⟩ = false := pb.frz
      have PB := hide pb
      have J0 := hide j0
      clear pb j0
      go_wp2_with fail
      go_roundw
      case rel =>
        refine ⟨i + 1, by simp only [Value.int.injEq, true_and]; omega, by simp, h, fun _ => ?_, ?_⟩
        · have h1 := (unhide PB).set (i) (by have := unhide HL; have := unhide J0; omega) (floatOfInt .f64 (c + (i : Int)))
          rw [fmarks_step c L (i) (unhide J0) _ (by first | rfl | (congr 1; omega))] at h1
          exact h1
        · exact (unhide HW).setCell _ _
      case measure => simp only [intOf]; omega
    · have i1 : ¬ (i : Int) < (n : Int) := by omega
      have iz : decide ((i : Int) < (n : Int)) = false := decide_eq_false i1
      have en : i = n := by omega
      subst en
      go_wp2_with fail
      go_ret
      refine ⟨rfl, fun hn => ?_, unhide HW⟩
      have h1 := unhide HB hn
      rw [List.drop_eq_nil_of_le (by rw [unhide HL]; omega), List.append_nil] at h1
      exact h1

theorem tnE_one (x0 x1 y0 y1 : Nat) (w : World) (h0 : Fv .f64 x0 = Fv .f64 y0) (h1 : Fv .f64 x1 = Fv .f64 y1) : Calls Try.prog 61 #[.agg #[.float .f64 x0, .float .f64 x1], .agg #[.float .f64 y0, .float .f64 y1]] w fun e w' => e = .returned (.bool true) ∧ Below w.heap.size w w' := by
  go_enter Try.func61, Try.ntmps61
  go_wp2_with fail
  refine (same_flt x0 y0 _ h0).mono ?_
  rintro e W0 ⟨rfl, hs0⟩
  have a0_1 : W0.cell? ⟨w.heap.size, 1, none⟩ = some (.float .f64 x1) := (hs0.cell _).trans (by simp [go_sem])
  have b0_1 : W0.cell? ⟨w.heap.size + 1, 1, none⟩ = some (.float .f64 y1) := (hs0.cell _).trans (by simp [go_sem])
  have HS0 := hide hs0
  clear hs0
  go_wp2_with fail
  refine (same_flt x1 y1 _ h1).mono ?_
  rintro e W1 ⟨rfl, hs1⟩
  have HS1 := hide hs1
  clear hs1
  go_wp2_with fail
  go_ret
  refine ⟨rfl, ?_⟩
  refine Below.trans (Below.trans (ba (ba (Below.refl _ _) _) _) (unhide HS0).bel) (unhide HS1).bel

set_option maxHeartbeats 1000000 in
theorem tn_same (u v : Option Addr) (p po q qo n cu cv : Nat) (L M : List Nat) (w : World) (hl : L.length = n * 2) (hm : L.map (Fv .f64) = M.map (Fv .f64)) (hn : n ≤ 4611686018427387904)
    (hu : Fls .f64 w u p po L) (hv : Fls .f64 w v q qo M) :
    Calls Try.prog 22 #[.slice u n cu, .slice v n cv] w fun e w' => e = .returned (.bool true) ∧ Below w.heap.size w w' := by
  have HU := hide hu
  have HV := hide hv
  have HL := hide hl
  have HM := hide hm
  have nn : ((n : Int) != (n : Int)) = false := by simp
  clear hu hv hl hm
  go_enter Try.func22, Try.ntmps22
  go_wp2
  go_loopw [5] (fun s W => ∃ i : Nat, s = .int .i64 (i : Int) ∧ i ≤ n ∧ Below w.heap.size w W) (fun s _ => n - (intOf s).toNat)
  case atStart => exact ⟨0, rfl, Nat.zero_le _, Below.refl _ _⟩
  case round =>
    obtain ⟨i, rfl, hi, hw⟩ := hrel
    have HW := hide hw
    clear hw
    by_cases h : i < n
    · have i1 : (i : Int) < (n : Int) := by omega
      have i0 : (0 : Int) ≤ (i : Int) := Int.natCast_nonneg _
      have iz : decide ((i : Int) < (n : Int)) = true := decide_eq_true i1
      have ku := (unhide HU).bel (unhide HW)
      have kv := (unhide HV).bel (unhide HW)
      obtain ⟨x0, ex0⟩ := fat_of (f := 0) (unhide HL) h (by omega)
      obtain ⟨y0, ey0, hf0⟩ := fv_pair (unhide HM) ex0
      obtain ⟨rfl, pw, k0⟩ := ku.at ex0
      obtain ⟨rfl, qw, l0⟩ := kv.at ey0
      obtain ⟨x1, ex1⟩ := fat_of (f := 1) (unhide HL) h (by omega)
      obtain ⟨y1, ey1, hf1⟩ := fv_pair (unhide HM) ex1
      have k1 := (ku.at ex1).2.2
      have l1 := (kv.at ey1).2.2
      rw [← Nat.add_assoc] at k1 l1
      rw [Nat.add_zero] at k0 l0
      have HF0 := hide hf0; have HF1 := hide hf1
      clear ku kv pw qw ex0 ey0 hf0 ex1 ey1 hf1
      go_wp2_with fail
      go_region_held3 (fun wx => wx.cell? ⟨p, po + i * 2, none⟩ = some (.float .f64 x0) ∧ wx.cell? ⟨p, po + i * 2 + 1, none⟩ = some (.float .f64 x1) ∧ wx.cell? ⟨q, qo + i * 2, none⟩ = some (.float .f64 y0) ∧ wx.cell? ⟨q, qo + i * 2 + 1, none⟩ = some (.float .f64 y1))
        (simp (maxDischargeDepth := 12) [go_sem, le1, lt1, *])
        (first
        | (go_at_call 61; refine (tnE_one _ _ _ _ _ (unhide HF0) (unhide HF1)).mono ?_; rintro e w' ⟨rfl, hb⟩; have HB := hide hb; have c0 := keep1 hb (b := p) (o := _) (v := .float .f64 x0) k0; have c1 := keep1 hb (b := p) (o := _) (v := .float .f64 x1) k1; have d0 := keep1 hb (b := q) (o := _) (v := .float .f64 y0) l0; have d1 := keep1 hb (b := q) (o := _) (v := .float .f64 y1) l1; clear hb))
      all_goals
        go_wp2_with fail
        go_roundw
        case rel => exact ⟨i + 1, by simp, h, by repeat (first | exact unhide HW | refine bc ?_ (unhide HB) | refine Below.drew ?_)⟩
        case measure => simp only [intOf]; omega
    · have i1 : ¬ (i : Int) < (n : Int) := by omega
      have iz : decide ((i : Int) < (n : Int)) = false := decide_eq_false i1
      go_wp2_with fail
      go_ret
      exact ⟨rfl, unhide HW⟩

set_option maxHeartbeats 1000000 in
theorem tn_mark (u : Option Addr) (p n cu B : Nat) (L : List Nat) (c : Int) (w : World) (hl : L.length = n * 2) (hn : n ≤ 1048576) (c0 : 0 ≤ c) (c1 : c ≤ 1000000)
    (hu : n ≠ 0 → u = some ⟨p, 0, none⟩ ∧ FRow .f64 w B 33 2 (.slice (some ⟨p, 0, none⟩) n cu) n L) :
    Calls Try.prog 25 #[.slice u n cu, .int .i64 c] w fun e w' => e = .returned (.int .i64 (c + (n : Int) * 2)) ∧ (n ≠ 0 → FRow .f64 w' B 33 2 (.slice (some ⟨p, 0, none⟩) n cu) n (fmarks .f64 c (n * 2))) ∧ But p w w' := by
  have HU := hide hu
  have HL := hide hl
  clear hu hl
  go_enter Try.func25, Try.ntmps25
  go_wp2
  go_loopw [1, 5] (fun s t W => ∃ i : Nat, s = .int .i64 (c + (i : Int) * 2) ∧ t = .int .i64 (i : Int) ∧ i ≤ n ∧ (n ≠ 0 → FRow .f64 W B 33 2 (.slice (some ⟨p, 0, none⟩) n cu) n (fmarks .f64 c (i * 2) ++ L.drop (i * 2))) ∧ But p w W) (fun _ s _ => n - (intOf s).toNat)
  case atStart => exact ⟨0, by simp, rfl, Nat.zero_le _, fun hn => by simpa [fmarks, marks] using (unhide HU hn).2, But.refl _ _⟩
  case round =>
    obtain ⟨i, rfl, rfl, hi, hb, hw⟩ := hrel
    have HB := hide hb
    have HW := hide hw
    clear hb hw
    by_cases h : i < n
    · have i1 : (i : Int) < (n : Int) := by omega
      have i0 : (0 : Int) ≤ (i : Int) := Int.natCast_nonneg _
      have iz : decide ((i : Int) < (n : Int)) = true := decide_eq_true i1
      obtain ⟨rfl, _⟩ := unhide HU (by omega)
      have pb := unhide HB (by omega)
      have j0 : i * 2 + 0 < L.length := by rw [unhide HL]; exact mul_lt_of h (by omega)
      have k0 : wr.cell? ⟨p, i * 2, none⟩ = some (.float .f64 (L[i * 2 + 0]'j0)) := pb.cellAt (fmarks_drop1 c L (i * 2) 0 j0)
      generalize L[i * 2 + 0]'j0 = x0 at k0
      have j1 : i * 2 + 1 < L.length := by rw [unhide HL]; exact mul_lt_of h (by omega)
      have k1 : wr.cell? ⟨p, i * 2 + 1, none⟩ = some (.float .f64 (L[i * 2 + 1]'j1)) := pb.cellAt (fmarks_drop1 c L (i * 2) 1 j1)
      generalize L[i * 2 + 1]'j1 = x1 at k1
      have fz : ∀ o, wr.frozen? ⟨p, o, none⟩ = false := pb.frz
      have PB := hide pb
      have J0 := hide j0; have J1 := hide j1
      clear pb j0 j1
      go_wp2_with fail
      go_roundw
      case rel =>
        refine ⟨i + 1, by simp only [Value.int.injEq, true_and]; omega, by simp, h, fun _ => ?_, ?_⟩
        · have h1 := ((unhide PB).set (i * 2) (by have := unhide HL; have := unhide J0; omega) (floatOfInt .f64 (c + (i : Int) * 2))).set (i * 2 + 1) (by have := unhide HL; have := unhide J1; omega) (floatOfInt .f64 (c + (i : Int) * 2 + 1))
          rw [fmarks_step c L (i * 2) (unhide J0) _ (by first | rfl | (congr 1; omega)), fmarks_step c L (i * 2 + 1) (unhide J1) _ (by first | rfl | (congr 1; omega))] at h1
          rw [show (i + 1) * 2 = i * 2 + 2 by omega]
          exact h1
        · exact ((unhide HW).setCell _ _).setCell _ _
      case measure => simp only [intOf]; omega
    · have i1 : ¬ (i : Int) < (n : Int) := by omega
      have iz : decide ((i : Int) < (n : Int)) = false := decide_eq_false i1
      have en : i = n := by omega
      subst en
      go_wp2_with fail
      go_ret
      refine ⟨rfl, fun hn => ?_, unhide HW⟩
      have h1 := unhide HB hn
      rw [List.drop_eq_nil_of_le (by rw [unhide HL]; omega), List.append_nil] at h1
      exact h1

set_option maxHeartbeats 1000000 in
theorem tn_held (u : Option Addr) (p n cu : Nat) (c : Int) (w : World) (hn : n ≤ 1048576) (c0 : 0 ≤ c) (c1 : c ≤ 1000000)
    (hu : n ≠ 0 → u = some ⟨p, 0, none⟩ ∧ FltsAt .f64 w p 0 (fmarks .f64 c (n * 2))) :
    Calls Try.prog 26 #[.slice u n cu, .int .i64 c] w fun e w' => e = .returned (.int .i64 (c + (n : Int) * 2)) ∧ Same w w' := by
  have HU := hide hu
  have ho := fun z : Int => int_neq .f64 z
  clear hu
  go_enter Try.func26, Try.ntmps26
  go_wp2
  go_loopw [1, 5] (fun s t W => ∃ i : Nat, s = .int .i64 (c + (i : Int) * 2) ∧ t = .int .i64 (i : Int) ∧ i ≤ n ∧ Same w W) (fun _ s _ => n - (intOf s).toNat)
  case atStart => exact ⟨0, by simp, rfl, Nat.zero_le _, Same.refl _⟩
  case round =>
    obtain ⟨i, rfl, rfl, hi, hw⟩ := hrel
    have HW := hide hw
    clear hw
    by_cases h : i < n
    · have i1 : (i : Int) < (n : Int) := by omega
      have i0 : (0 : Int) ≤ (i : Int) := Int.natCast_nonneg _
      have iz : decide ((i : Int) < (n : Int)) = true := decide_eq_true i1
      obtain ⟨rfl, pa⟩ := unhide HU (by omega)
      have k0 : wr.cell? ⟨p, i * 2, none⟩ = some (.float .f64 (floatOfInt .f64 (c + (i : Int) * 2))) := by
        have h0 := pa (i * 2 + 0) _ (fmarks_at c (n * 2) (i * 2 + 0) (mul_lt_of h (by omega)))
        rw [Nat.zero_add] at h0
        rw [show c + (i : Int) * 2 = c + ((i * 2 + 0 : Nat) : Int) by omega, (unhide HW).cell]
        exact h0
      have k1 : wr.cell? ⟨p, i * 2 + 1, none⟩ = some (.float .f64 (floatOfInt .f64 (c + (i : Int) * 2 + 1))) := by
        have h0 := pa (i * 2 + 1) _ (fmarks_at c (n * 2) (i * 2 + 1) (mul_lt_of h (by omega)))
        rw [Nat.zero_add] at h0
        rw [show c + (i : Int) * 2 + 1 = c + ((i * 2 + 1 : Nat) : Int) by omega, (unhide HW).cell]
        exact h0
      clear pa
      go_wp2_with fail
      go_roundw
      case rel => exact ⟨i + 1, by simp only [Value.int.injEq, true_and]; omega, by simp, h, by repeat (first | exact unhide HW | refine Same.drew ?_)⟩
      case measure => simp only [intOf]; omega
    · have i1 : ¬ (i : Int) < (n : Int) := by omega
      have iz : decide ((i : Int) < (n : Int)) = false := decide_eq_false i1
      have en : i = n := by omega
      subst en
      go_wp2_with fail
      go_ret
      exact ⟨rfl, unhide HW⟩
end Go.Proofs.Ytgocgcnpgmamiaa
