/-
  What the laws ask of rows of masses.
-/
import Derived.Test.YtgocgcnpgmamiaaFlLw
namespace Go.Proofs.Ytgocgcnpgmamiaa
open Go.ChangeShapes Go.WideShapes Go.ChangeAt Go.RowKit
set_option linter.unusedVariables false
set_option linter.unusedSimpArgs false
attribute [local go_sem] run_store_flt run_store_cpx

theorem ms_sz_in (u : Option Addr) (n cu : Nat) (c : Int) (w : World) (hc : c ≤ 1048576) (hn : (n : Int) ≤ c) :
    Calls Try.prog 20 #[.slice u n cu, .int .i64 c] w fun e w' => e = .returned (.int .i64 (c - n)) ∧ w' = w := by
  have t : decide (c - (n : Int) < 0) = false := decide_eq_false (by omega)
  have n0 : (0 : Int) ≤ (n : Int) := Int.natCast_nonneg _
  go_enter Try.func20, Try.ntmps20
  go_wp2
  go_ret
  exact ⟨rfl, rfl⟩
theorem ms_sz_out (u : Option Addr) (n cu : Nat) (c : Int) (w : World) (hc0 : -1 ≤ c) (hc : c ≤ 1048576) (hn : c < (n : Int)) (hm : n ≤ 9223372036854775807) :
    Calls Try.prog 20 #[.slice u n cu, .int .i64 c] w fun e w' => e = .returned (.int .i64 (-1)) ∧ w' = w := by
  have t : decide (c - (n : Int) < 0) = true := decide_eq_true (by omega)
  have n0 : (0 : Int) ≤ (n : Int) := Int.natCast_nonneg _
  go_enter Try.func20, Try.ntmps20
  go_wp2
  go_ret
  exact ⟨rfl, rfl⟩

theorem ms_conv (x0 x1 x2 : Nat) (w : World) : Calls Try.prog 60 #[.agg #[.float .f64 x0, .float .f64 x1, .float .f64 x2]] w fun e w' => e = .returned (.agg #[.float .f64 x0, .float .f64 x1, .float .f64 x2]) ∧ Below w.heap.size w w' := by
  go_enter Try.func60, Try.ntmps60
  go_wp2
  exact bodyPost_ret (v := .agg #[.float .f64 x0, .float .f64 x1, .float .f64 x2]) (by simp [results, Try.results60, go_sem]) rfl ⟨rfl, by repeat (first | exact Below.refl _ _ | refine ba ?_ _ | refine bs ?_ (by omega))⟩

theorem ms_info : (Try.prog.info? 30).map (fun i => (i.zero, i.size, i.bytes)) = some (some (.agg #[.float .f64 0, .float .f64 0, .float .f64 0]), 3, 24) := by kernel_rfl
set_option maxHeartbeats 1000000 in
theorem ms_to (u : Option Addr) (p po n cu : Nat) (L : List Nat) (w : World) (hl : L.length = n * 3) (hn : n ≤ 1048576) (hu : Fls .f64 w u p po L) :
    Calls Try.prog 21 #[.slice u n cu] w fun e w' => (∃ g, e = .returned (.slice (some ⟨g, 0, none⟩) n n) ∧ w.heap.size ≤ g ∧ fblk .f64 w' g 30 L) ∧ Below w.heap.size w w' := by
  have HU := hide hu
  have HL := hide hl
  clear hu hl
  have hmk := fun W => make_flts (fk := .f64) (P := Try.prog) 23 30 3 24 n Try.underlying23 (.agg #[.float .f64 0, .float .f64 0, .float .f64 0]) (by rfl) (by omega) ms_info (by omega) (by omega) W
  generalize hzz : fzeros (n * 3) = Z at hmk
  have HZ := hide hzz
  clear hzz
  go_enter Try.func21, Try.ntmps21
  go_wp2_with fail
  have HG := hide (fblk_new (fk := .f64) w 30 Z)
  have HB0 := hide (ba (Below.refl w.heap.size w) (.cells (Z.map (Value.float .f64)).toArray 30))
  clear hmk
  go_loopw [4] (fun s W => ∃ i : Nat, s = .int .i64 (i : Int) ∧ i ≤ n ∧ fblk .f64 W w.heap.size 30 (L.take (i * 3) ++ fzeros (L.length - i * 3)) ∧ Below w.heap.size w W) (fun s _ => n - (intOf s).toNat)
  case atStart =>
    refine ⟨0, rfl, Nat.zero_le _, ?_, unhide HB0⟩
    have e : L.take (0 * 3) ++ fzeros (L.length - 0 * 3) = Z := by rw [unhide HL, ← unhide HZ]; simp
    rw [e]
    exact unhide HG
  case round =>
    obtain ⟨i, rfl, hi, hb, hw⟩ := hrel
    have HB := hide hb
    have HW := hide hw
    clear hb hw HG HB0
    by_cases h : i < n
    · have i1 : (i : Int) < (n : Int) := by omega
      have i0 : (0 : Int) ≤ (i : Int) := Int.natCast_nonneg _
      have iz : decide ((i : Int) < (n : Int)) = true := decide_eq_true i1
      have ku := (unhide HU).bel (unhide HW)
      obtain ⟨x0, ex0⟩ := fat_of (f := 0) (unhide HL) h (by omega)
      obtain ⟨rfl, pw, k0⟩ := ku.at ex0
      have E0 := hide ex0
      obtain ⟨x1, ex1⟩ := fat_of (f := 1) (unhide HL) h (by omega)
      have k1 := (ku.at ex1).2.2
      rw [← Nat.add_assoc] at k1
      have E1 := hide ex1
      obtain ⟨x2, ex2⟩ := fat_of (f := 2) (unhide HL) h (by omega)
      have k2 := (ku.at ex2).2.2
      rw [← Nat.add_assoc] at k2
      have E2 := hide ex2
      rw [Nat.add_zero] at k0
      clear ku pw ex0 ex1 ex2
      go_wp2_with fail
      refine (ms_conv _ _ _ _).mono ?_
      rintro e W1 ⟨rfl, hb⟩
      have pb := (unhide HB).bel hb
      have HW1 := hide (bc (unhide HW) hb)
      have j0 : i * 3 + 0 < L.length := by rw [unhide HL]; exact mul_lt_of h (by omega)
      have m0 : W1.cell? ⟨w.heap.size, i * 3, none⟩ = some (.float .f64 0) := pb.cell (ffill_at L (i * 3) 0 j0)
      have j1 : i * 3 + 1 < L.length := by rw [unhide HL]; exact mul_lt_of h (by omega)
      have m1 : W1.cell? ⟨w.heap.size, i * 3 + 1, none⟩ = some (.float .f64 0) := pb.cell (ffill_at L (i * 3) 1 j1)
      have j2 : i * 3 + 2 < L.length := by rw [unhide HL]; exact mul_lt_of h (by omega)
      have m2 : W1.cell? ⟨w.heap.size, i * 3 + 2, none⟩ = some (.float .f64 0) := pb.cell (ffill_at L (i * 3) 2 j2)
      have fz : ∀ o, W1.frozen? ⟨w.heap.size, o, none⟩ = false := pb.frozen
      have lg := pb.lt
      have PB := hide pb
      have J0 := hide j0; have J1 := hide j1; have J2 := hide j2
      clear hb pb j0 k0 j1 k1 j2 k2
      go_wp2_with fail
      go_roundw
      case rel =>
        refine ⟨i + 1, by simp, h, ?_, ?_⟩
        · have h1 := (((unhide PB).set (i * 3) x0).set (i * 3 + 1) x1).set (i * 3 + 2) x2
          rw [ffill_step L (i * 3) (unhide J0) _ (unhide E0), ffill_step L (i * 3 + 1) (unhide J1) _ (unhide E1), ffill_step L (i * 3 + 2) (unhide J2) _ (unhide E2)] at h1
          rw [show (i + 1) * 3 = i * 3 + 3 by omega]
          exact h1
        · exact bs (bs (bs (unhide HW1) (Nat.le_refl _)) (Nat.le_refl _)) (Nat.le_refl _)
      case measure => simp only [intOf]; omega
    · have i1 : ¬ (i : Int) < (n : Int) := by omega
      have iz : decide ((i : Int) < (n : Int)) = false := decide_eq_false i1
      have en : i = n := by omega
      subst en
      go_wp2_with fail
      go_ret
      refine ⟨⟨_, rfl, Nat.le_refl _, ?_⟩, unhide HW⟩
      have h1 := unhide HB
      rw [List.take_of_length_le (by rw [unhide HL]; omega), show L.length - i * 3 = 0 by rw [unhide HL]; omega] at h1
      simpa [fzeros] using h1

theorem msE_one (x0 x1 x2 y0 y1 y2 : Nat) (w : World) (h0 : Fv .f64 x0 = Fv .f64 y0) (h1 : Fv .f64 x1 = Fv .f64 y1) (h2 : Fv .f64 x2 = Fv .f64 y2) : Calls Try.prog 62 #[.agg #[.float .f64 x0, .float .f64 x1, .float .f64 x2], .agg #[.float .f64 y0, .float .f64 y1, .float .f64 y2]] w fun e w' => e = .returned (.bool true) ∧ Below w.heap.size w w' := by
  go_enter Try.func62, Try.ntmps62
  go_wp2_with fail
  refine (same_flt x0 y0 _ h0).mono ?_
  rintro e W0 ⟨rfl, hs0⟩
  have a0_1 : W0.cell? ⟨w.heap.size, 1, none⟩ = some (.float .f64 x1) := (hs0.cell _).trans (by simp [go_sem])
  have b0_1 : W0.cell? ⟨w.heap.size + 1, 1, none⟩ = some (.float .f64 y1) := (hs0.cell _).trans (by simp [go_sem])
  have a0_2 : W0.cell? ⟨w.heap.size, 2, none⟩ = some (.float .f64 x2) := (hs0.cell _).trans (by simp [go_sem])
  have b0_2 : W0.cell? ⟨w.heap.size + 1, 2, none⟩ = some (.float .f64 y2) := (hs0.cell _).trans (by simp [go_sem])
  have HS0 := hide hs0
  clear hs0
  go_wp2_with fail
  refine (same_flt x1 y1 _ h1).mono ?_
  rintro e W1 ⟨rfl, hs1⟩
  have a1_2 : W1.cell? ⟨w.heap.size, 2, none⟩ = some (.float .f64 x2) := (hs1.cell _).trans (a0_2)
  have b1_2 : W1.cell? ⟨w.heap.size + 1, 2, none⟩ = some (.float .f64 y2) := (hs1.cell _).trans (b0_2)
  have HS1 := hide hs1
  clear hs1
  go_wp2_with fail
  refine (same_flt x2 y2 _ h2).mono ?_
  rintro e W2 ⟨rfl, hs2⟩
  have HS2 := hide hs2
  clear hs2
  go_wp2_with fail
  go_ret
  refine ⟨rfl, ?_⟩
  refine Below.trans (Below.trans (Below.trans (ba (ba (Below.refl _ _) _) _) (unhide HS0).bel) (unhide HS1).bel) (unhide HS2).bel

set_option maxHeartbeats 1000000 in
theorem ms_same (u v : Option Addr) (p po q qo n cu cv : Nat) (L M : List Nat) (w : World) (hl : L.length = n * 3) (hm : L.map (Fv .f64) = M.map (Fv .f64)) (hn : n ≤ 4611686018427387904)
    (hu : Fls .f64 w u p po L) (hv : Fls .f64 w v q qo M) :
    Calls Try.prog 23 #[.slice u n cu, .slice v n cv] w fun e w' => e = .returned (.bool true) ∧ Below w.heap.size w w' := by
  have HU := hide hu
  have HV := hide hv
  have HL := hide hl
  have HM := hide hm
  have nn : ((n : Int) != (n : Int)) = false := by simp
  clear hu hv hl hm
  go_enter Try.func23, Try.ntmps23
  go_wp2
  go_loopw [5] (fun s W => ∃ i : Nat, s = .int .i64 (i : Int) ∧ i ≤ n ∧ Below w.heap.size w W) (fun s _ => n - (intOf s).toNat)
  case atStart => exact ⟨0, rfl, Nat.zero_le _, Below.refl _ _⟩
  case round =>
    obtain ⟨i, rfl, hi, hw⟩ := hrel
    have HW := hide hw
    clear hw
    by_cases h : i < n
    · have i1 : (i : Int) < (n : Int) := by omega
      have i0 : (0 : Int) ≤ (i : Int) := Int.natCast_nonneg _
      have iz : decide ((i : Int) < (n : Int)) = true := decide_eq_true i1
      have ku := (unhide HU).bel (unhide HW)
      have kv := (unhide HV).bel (unhide HW)
      obtain ⟨x0, ex0⟩ := fat_of (f := 0) (unhide HL) h (by omega)
      obtain ⟨y0, ey0, hf0⟩ := fv_pair (unhide HM) ex0
      obtain ⟨rfl, pw, k0⟩ := ku.at ex0
      obtain ⟨rfl, qw, l0⟩ := kv.at ey0
      obtain ⟨x1, ex1⟩ := fat_of (f := 1) (unhide HL) h (by omega)
      obtain ⟨y1, ey1, hf1⟩ := fv_pair (unhide HM) ex1
      have k1 := (ku.at ex1).2.2
      have l1 := (kv.at ey1).2.2
      rw [← Nat.add_assoc] at k1 l1
      obtain ⟨x2, ex2⟩ := fat_of (f := 2) (unhide HL) h (by omega)
      obtain ⟨y2, ey2, hf2⟩ := fv_pair (unhide HM) ex2
      have k2 := (ku.at ex2).2.2
      have l2 := (kv.at ey2).2.2
      rw [← Nat.add_assoc] at k2 l2
      rw [Nat.add_zero] at k0 l0
      have HF0 := hide hf0; have HF1 := hide hf1; have HF2 := hide hf2
      clear ku kv pw qw ex0 ey0 hf0 ex1 ey1 hf1 ex2 ey2 hf2
      go_wp2_with fail
      go_region_held3 (fun wx => wx.cell? ⟨p, po + i * 3, none⟩ = some (.float .f64 x0) ∧ wx.cell? ⟨p, po + i * 3 + 1, none⟩ = some (.float .f64 x1) ∧ wx.cell? ⟨p, po + i * 3 + 2, none⟩ = some (.float .f64 x2) ∧ wx.cell? ⟨q, qo + i * 3, none⟩ = some (.float .f64 y0) ∧ wx.cell? ⟨q, qo + i * 3 + 1, none⟩ = some (.float .f64 y1) ∧ wx.cell? ⟨q, qo + i * 3 + 2, none⟩ = some (.float .f64 y2))
        (simp (maxDischargeDepth := 12) [go_sem, le1, lt1, *])
        (first
        | (go_at_call 62; refine (msE_one _ _ _ _ _ _ _ (unhide HF0) (unhide HF1) (unhide HF2)).mono ?_; rintro e w' ⟨rfl, hb⟩; have HB := hide hb; have c0 := keep1 hb (b := p) (o := _) (v := .float .f64 x0) k0; have c1 := keep1 hb (b := p) (o := _) (v := .float .f64 x1) k1; have c2 := keep1 hb (b := p) (o := _) (v := .float .f64 x2) k2; have d0 := keep1 hb (b := q) (o := _) (v := .float .f64 y0) l0; have d1 := keep1 hb (b := q) (o := _) (v := .float .f64 y1) l1; have d2 := keep1 hb (b := q) (o := _) (v := .float .f64 y2) l2; clear hb))
      all_goals
        go_wp2_with fail
        go_roundw
        case rel => exact ⟨i + 1, by simp, h, by repeat (first | exact unhide HW | refine bc ?_ (unhide HB) | refine Below.drew ?_)⟩
        case measure => simp only [intOf]; omega
    · have i1 : ¬ (i : Int) < (n : Int) := by omega
      have iz : decide ((i : Int) < (n : Int)) = false := decide_eq_false i1
      go_wp2_with fail
      go_ret
      exact ⟨rfl, unhide HW⟩

set_option maxHeartbeats 1000000 in
theorem ms_mark (u : Option Addr) (p n cu B : Nat) (L : List Nat) (c : Int) (w : World) (hl : L.length = n * 3) (hn : n ≤ 1048576) (c0 : 0 ≤ c) (c1 : c ≤ 1000000)
    (hu : n ≠ 0 → u = some ⟨p, 0, none⟩ ∧ FRow .f64 w B 30 3 (.slice (some ⟨p, 0, none⟩) n cu) n L) :
    Calls Try.prog 24 #[.slice u n cu, .int .i64 c] w fun e w' => e = .returned (.int .i64 (c + (n : Int) * 3)) ∧ (n ≠ 0 → FRow .f64 w' B 30 3 (.slice (some ⟨p, 0, none⟩) n cu) n (fmarks .f64 c (n * 3))) ∧ But p w w' := by
  have HU := hide hu
  have HL := hide hl
  clear hu hl
  go_enter Try.func24, Try.ntmps24
  go_wp2
  go_loopw [1, 5] (fun s t W => ∃ i : Nat, s = .int .i64 (c + (i : Int) * 3) ∧ t = .int .i64 (i : Int) ∧ i ≤ n ∧ (n ≠ 0 → FRow .f64 W B 30 3 (.slice (some ⟨p, 0, none⟩) n cu) n (fmarks .f64 c (i * 3) ++ L.drop (i * 3))) ∧ But p w W) (fun _ s _ => n - (intOf s).toNat)
  case atStart => exact ⟨0, by simp, rfl, Nat.zero_le _, fun hn => by simpa [fmarks, marks] using (unhide HU hn).2, But.refl _ _⟩
  case round =>
    obtain ⟨i, rfl, rfl, hi, hb, hw⟩ := hrel
    have HB := hide hb
    have HW := hide hw
    clear hb hw
    by_cases h : i < n
    · have i1 : (i : Int) < (n : Int) := by omega
      have i0 : (0 : Int) ≤ (i : Int) := Int.natCast_nonneg _
      have iz : decide ((i : Int) < (n : Int)) = true := decide_eq_true i1
      obtain ⟨rfl, _⟩ := unhide HU (by omega)
      have pb := unhide HB (by omega)
      have j0 : i * 3 + 0 < L.length := by rw [unhide HL]; exact mul_lt_of h (by omega)
      have k0 : wr.cell? ⟨p, i * 3, none⟩ = some (.float .f64 (L[i * 3 + 0]'j0)) := pb.cellAt (fmarks_drop1 c L (i * 3) 0 j0)
      generalize L[i * 3 + 0]'j0 = x0 at k0
      have j1 : i * 3 + 1 < L.length := by rw [unhide HL]; exact mul_lt_of h (by omega)
      have k1 : wr.cell? ⟨p, i * 3 + 1, none⟩ = some (.float .f64 (L[i * 3 + 1]'j1)) := pb.cellAt (fmarks_drop1 c L (i * 3) 1 j1)
      generalize L[i * 3 + 1]'j1 = x1 at k1
      have j2 : i * 3 + 2 < L.length := by rw [unhide HL]; exact mul_lt_of h (by omega)
      have k2 : wr.cell? ⟨p, i * 3 + 2, none⟩ = some (.float .f64 (L[i * 3 + 2]'j2)) := pb.cellAt (fmarks_drop1 c L (i * 3) 2 j2)
      generalize L[i * 3 + 2]'j2 = x2 at k2
      have fz : ∀ o, wr.frozen? ⟨p, o, none⟩ = false := pb.frz
      have PB := hide pb
      have J0 := hide j0; have J1 := hide j1; have J2 := hide j2
      clear pb j0 j1 j2
      go_wp2_with fail
      go_roundw
      case rel =>
        refine ⟨i + 1, by simp only [Value.int.injEq, true_and]; omega, by simp, h, fun _ => ?_, ?_⟩
        · have h1 := (((unhide PB).set (i * 3) (by have := unhide HL; have := unhide J0; omega) (floatOfInt .f64 (c + (i : Int) * 3))).set (i * 3 + 1) (by have := unhide HL; have := unhide J1; omega) (floatOfInt .f64 (c + (i : Int) * 3 + 1))).set (i * 3 + 2) (by have := unhide HL; have := unhide J2; omega) (floatOfInt .f64 (c + (i : Int) * 3 + 1 + 1))
          rw [fmarks_step c L (i * 3) (unhide J0) _ (by first | rfl | (congr 1; omega)), fmarks_step c L (i * 3 + 1) (unhide J1) _ (by first | rfl | (congr 1; omega)), fmarks_step c L (i * 3 + 2) (unhide J2) _ (by first | rfl | (congr 1; omega))] at h1
          rw [show (i + 1) * 3 = i * 3 + 3 by omega]
          exact h1
        · exact (((unhide HW).setCell _ _).setCell _ _).setCell _ _
      case measure => simp only [intOf]; omega
    · have i1 : ¬ (i : Int) < (n : Int) := by omega
      have iz : decide ((i : Int) < (n : Int)) = false := decide_eq_false i1
      have en : i = n := by omega
      subst en
      go_wp2_with fail
      go_ret
      refine ⟨rfl, fun hn => ?_, unhide HW⟩
      have h1 := unhide HB hn
      rw [List.drop_eq_nil_of_le (by rw [unhide HL]; omega), List.append_nil] at h1
      exact h1
end Go.Proofs.Ytgocgcnpgmamiaa
