/-
  symMerge's general case, if it serves for smaller stretches.
-/
import Derived.Test.YtmoobfbjehgdnaaSym0B
namespace Go.Proofs.Ytmoobfbjehgdnaa
open Go.ChangeShapes Go.WideShapes Go.ChangeAt Go.RowKit
set_option linter.unusedVariables false
set_option linter.unusedSimpArgs false

def RecM (c : Value) (D m : Nat) (rem : Int → Int) (ok : Int → Prop) (Env : World → Prop) (N : Nat) : Prop :=
  ∀ (X T1 T2 Y : List Int) (W : World), T1.length + T2.length < N → X.length + T1.length + T2.length + Y.length = m → 0 < T1.length → 0 < T2.length → Two2 rem ok T1 T2 → Env W → iblk W D 3 (X ++ (T1 ++ (T2 ++ Y))) →
    Calls Try.prog 62 #[.slice (some ⟨D, 0, none⟩) m m, .int .i64 (X.length : Int), .int .i64 ((X.length + T1.length : Nat) : Int), .int .i64 ((X.length + T1.length + T2.length : Nat) : Int), .func (.func 44) #[] #[c]] W fun e w' => e = .returned (.tuple #[]) ∧ Merged rem D X T1 T2 Y W w'

set_option maxHeartbeats 2000000 in
set_option maxRecDepth 100000 in
theorem symG (D m : Nat) (c : Value) (rem : Int → Int) (ok : Int → Prop) (Env : World → Prop) (H : Cmp c D (cmR rem) ok Env) (X S1 S2 Y : List Int) (w : World) (hm : m ≤ 4096) (hl : X.length + S1.length + S2.length + Y.length = m) (h2 : 2 ≤ S1.length) (h3 : 2 ≤ S2.length) (ht : Two2 rem ok S1 S2) (he : Env w) (hb : iblk w D 3 (X ++ (S1 ++ (S2 ++ Y)))) (HREC : Hid (RecM c D m rem ok Env (S1.length + S2.length))) :
    Calls Try.prog 62 #[.slice (some ⟨D, 0, none⟩) m m, .int .i64 (X.length : Int), .int .i64 ((X.length + S1.length : Nat) : Int), .int .i64 ((X.length + S1.length + S2.length : Nat) : Int), .func (.func 44) #[] #[c]] w fun e w' => e = .returned (.tuple #[]) ∧ Merged rem D X S1 S2 Y w w' := by
  have HI := hide hb
  have HE := hide he
  have HH := hide H
  have EG := H.enters
  have HT := hide ht
  have HLEN := hide hl
  generalize hp : X.length = p at *
  generalize hq : p + S1.length = q
  generalize hr : q + S2.length = r
  obtain ⟨mid, eh⟩ : ∃ mid : Nat, ((p : Int) + (r : Int)) / 2 = (mid : Int) := ⟨(p + r) / 2, by omega⟩
  have q1 : p + 2 ≤ q := by omega
  have q2 : q + 2 ≤ r := by omega
  have q3 : r ≤ m := by omega
  have q5 : p < mid := by omega
  have q6 : mid < r := by omega
  have q7 : (mid : Int) + (q : Int) ≤ 8192 := by omega
  have q8 : (p : Int) + (r : Int) ≤ 8192 := by omega
  have q9 : (r : Int) ≤ 4096 := by omega
  have q10 : 2 * mid ≤ p + r := by omega
  have HP := hide hp
  have HQ := hide hq
  have HR := hide hr
  have e1 : ((q : Int) - (p : Int) == 1) = false := by rw [beq_eq_false_iff_ne]; omega
  have e3 : ((r : Int) - (q : Int) == 1) = false := by rw [beq_eq_false_iff_ne]; omega
  clear hb he H ht hl hp hq hr h2 h3
  by_cases hmid : mid < q
  · have d0 : decide ((mid : Int) < (q : Int)) = true := decide_eq_true (by omega)
    have hs0 : r ≤ mid + q := by omega
    obtain ⟨s0, es0⟩ : ∃ s0 : Nat, s0 + r = mid + q := ⟨mid + q - r, by omega⟩
    have ws : IntKind.i64.wrap ((mid : Int) + (q : Int) - (r : Int)) = (s0 : Int) := by rw [show (mid : Int) + (q : Int) - (r : Int) = (s0 : Int) by omega, IntKind.wrap_i64]; omega
    have us : (mid : Int) + (q : Int) - (r : Int) = (s0 : Int) := by omega
    have b1 : p ≤ s0 := by omega
    have b2 : s0 ≤ mid := by omega
    have ES := hide es0
    clear es0
    go_enter Try.func62, Try.ntmps62
    go_wp2_with fail
    go_loopw [20, 21] (fun z y W => ∃ (i j : Nat), z = .int .i64 (i : Int) ∧ y = .int .i64 (j : Int) ∧ s0 ≤ i ∧ i ≤ j ∧ j ≤ mid ∧ (i = s0 ∨ ∀ x y, S1[i - 1 - p]? = some x → S2[mid - i]? = some y → ltR rem x y) ∧ (j = mid ∨ ∀ x y, S2[mid - 1 - j]? = some x → S1[j - p]? = some y → ltR rem x y) ∧ iblk W D 3 (X ++ (S1 ++ (S2 ++ Y))) ∧ But D w W) (fun z y _ => (intOf y).toNat - (intOf z).toNat)
    case atStart => exact ⟨s0, mid, by first | rfl | simp, rfl, Nat.le_refl _, by omega, Nat.le_refl _, .inl rfl, .inl rfl, unhide HI, But.refl _ _⟩
    case round =>
      obtain ⟨i, j, rfl, rfl, hi1, hij, hj2, hA, hB, hk, hw⟩ := hrel
      have HA := hide hA
      have HB := hide hB
      have HW := hide hw
      have HK := hide hk
      have hsq := unhide HQ
      have hsr := unhide HR
      clear hw hk hA hB HI
      by_cases h : i < j
      · have d1 : decide ((i : Int) < (j : Int)) = true := decide_eq_true (by omega)
        obtain ⟨cN, ec⟩ : ∃ cN : Nat, ((i : Int) + (j : Int)) / 2 = (cN : Int) := ⟨(i + j) / 2, by omega⟩
        have n1 : i ≤ cN := by omega
        have n2 : cN < j := by omega
        obtain ⟨uN, eu⟩ : ∃ uN : Nat, uN + 1 + cN = mid + q := ⟨mid + q - 1 - cN, by omega⟩
        have wu : IntKind.i64.wrap ((mid : Int) + (q : Int) - 1 - (cN : Int)) = (uN : Int) := by rw [show (mid : Int) + (q : Int) - 1 - (cN : Int) = (uN : Int) by omega, IntKind.wrap_i64]; omega
        have n3 : (cN : Int) < (m : Int) := by omega
        have n4 : (0 : Int) ≤ (cN : Int) := Int.natCast_nonneg _
        have n5 : (uN : Int) < (m : Int) := by omega
        have n6 : (0 : Int) ≤ (uN : Int) := Int.natCast_nonneg _
        obtain ⟨x, hx⟩ : ∃ x, S1[cN - p]? = some x := ⟨_, List.getElem?_eq_getElem (by omega)⟩
        obtain ⟨y, hy⟩ : ∃ y, S2[mid - 1 - cN]? = some y := ⟨_, List.getElem?_eq_getElem (by omega)⟩
        have c0 := row_left X S1 (S2 ++ Y) (cN - p) x hx
        have c1 := row_right X S1 S2 Y (mid - 1 - cN) y hy
        rw [unhide HP] at c0 c1
        rw [show p + (cN - p) = cN by omega] at c0
        rw [hsq, show q + (mid - 1 - cN) = uN by omega] at c1
        have k0 := (unhide HK).cell c0
        have k1 := (unhide HK).cell c1
        have hxy := (unhide HT).lt x (List.mem_of_getElem? hx) y (List.mem_of_getElem? hy)
        have HOX := hide ((unhide HT).o1 x (List.mem_of_getElem? hx))
        have HOY := hide ((unhide HT).o2 y (List.mem_of_getElem? hy))
        have HXY := hide hxy
        have HX := hide hx
        have HY := hide hy
        have EU := hide eu
        clear c0 c1 hxy hx hy eu hsq hsr
        by_cases hc : cmR rem y x < 0
        · have hcd : decide (cmR rem y x < 0) = true := decide_eq_true hc
          have HLT := hide ((cmR_late (unhide HXY)).1 hc)
          go_wp2_with fail
          go_region_held3 (fun wx => wx.cell? ⟨D, uN, none⟩ = some (.int .i64 y) ∧ wx.cell? ⟨D, cN, none⟩ = some (.int .i64 x))
            (simp (maxDischargeDepth := 12) [go_sem, le1, lt1, *])
            (first
            | (go_at_call 44; refine ((unhide HH).ans _ y x ((unhide HH).keep w _ (unhide HE) (by repeat (first | exact unhide HW | refine But.drew ?_))) (unhide HOY) (unhide HOX)).mono ?_; rintro e' w' ⟨rfl, hs⟩; have hsc := hs.cell; have HSM := hide hs; clear hs))
          all_goals
            go_wp2_with fail
            go_roundw
            case rel => exact ⟨i, cN, rfl, rfl, hi1, n1, by omega, unhide HA, .inr (fun x' y' hx' hy' => by rw [unhide HY] at hx'; rw [unhide HX] at hy'; cases hx'; cases hy'; exact unhide HLT), by repeat (first | exact unhide HK | refine Same.iblk (unhide HSM) ?_), by repeat (first | exact unhide HW | refine But.sm ?_ (unhide HSM) | refine But.drew ?_)⟩
            case measure => simp only [intOf]; omega
        · have hcd : decide (cmR rem y x < 0) = false := decide_eq_false hc
          have HLT := hide ((cmR_late' (unhide HXY)).1 hc)
          go_wp2_with fail
          go_region_held3 (fun wx => wx.cell? ⟨D, uN, none⟩ = some (.int .i64 y) ∧ wx.cell? ⟨D, cN, none⟩ = some (.int .i64 x))
            (simp (maxDischargeDepth := 12) [go_sem, le1, lt1, *])
            (first
            | (go_at_call 44; refine ((unhide HH).ans _ y x ((unhide HH).keep w _ (unhide HE) (by repeat (first | exact unhide HW | refine But.drew ?_))) (unhide HOY) (unhide HOX)).mono ?_; rintro e' w' ⟨rfl, hs⟩; have hsc := hs.cell; have HSM := hide hs; clear hs))
          all_goals
            go_wp2_with fail
            go_roundw
            case rel => exact ⟨cN + 1, j, by simp, rfl, by omega, by omega, hj2, .inr (fun x' y' hx' hy' => by rw [show cN + 1 - 1 - p = cN - p by omega, unhide HX] at hx'; rw [show mid - (cN + 1) = mid - 1 - cN by omega, unhide HY] at hy'; cases hx'; cases hy'; exact unhide HLT), unhide HB, by repeat (first | exact unhide HK | refine Same.iblk (unhide HSM) ?_), by repeat (first | exact unhide HW | refine But.sm ?_ (unhide HSM) | refine But.drew ?_)⟩
            case measure => simp only [intOf]; omega
      · have d1 : decide ((i : Int) < (j : Int)) = false := decide_eq_false (by omega)
        have eij : i = j := by omega
        subst eij
        obtain ⟨eN, ee⟩ : ∃ eN : Nat, eN + i = mid + q := ⟨mid + q - i, by omega⟩
        have we : IntKind.i64.wrap ((mid : Int) + (q : Int) - (i : Int)) = (eN : Int) := by rw [show (mid : Int) + (q : Int) - (i : Int) = (eN : Int) by omega, IntKind.wrap_i64]; omega
        have ue : (mid : Int) + (q : Int) - (i : Int) = (eN : Int) := by omega
        obtain ⟨L1, L2, R1, R2, hS1, hS2, hl1, hl2, hr1, hr2, hbord⟩ : ∃ L1 L2 R1 R2 : List Int, S1 = L1 ++ L2 ∧ S2 = R1 ++ R2 ∧ p + L1.length = i ∧ i + L2.length = q ∧ q + R1.length = eN ∧ eN + R2.length = r ∧ (∀ x ∈ L1 ++ R1, ∀ y ∈ L2 ++ R2, ltR rem x y) := by
          refine ⟨S1.take (i - p), S1.drop (i - p), S2.take (mid - i), S2.drop (mid - i), (List.take_append_drop _ _).symm, (List.take_append_drop _ _).symm, ?_, ?_, ?_, ?_, ?_⟩
          · rw [List.length_take]; omega
          · rw [List.length_drop]; omega
          · rw [List.length_take]; omega
          · rw [List.length_drop]; omega
          · have hB := border_of (rem := rem) (S1 := S1) (S2 := S2) (l := i - p) (r := mid - i) (by omega) (by omega) (by
              rcases unhide HA with h | h
              · first | (left; omega) | (right; left; omega)
              · right; right; rw [show i - p - 1 = i - 1 - p by omega]; exact h) (by
              rcases unhide HB with h | h
              · first | (left; omega) | (right; left; omega)
              · right; right; rw [show mid - i - 1 = mid - 1 - i by omega]; exact h)
            exact sym_border (by rw [List.take_append_drop]; exact (unhide HT).s1) (by rw [List.take_append_drop]; exact (unhide HT).s2) hB.1 hB.2
        subst hS1
        subst hS2
        obtain ⟨tw1, tw2⟩ := (unhide HT).parts
        have hpx := unhide HP
        have hrl : X.length + L1.length + L2.length + R1.length + R2.length + Y.length = m := by have := unhide HLEN; simp only [List.length_append] at this; omega
        have hK0 : iblk wr D 3 (X ++ (L1 ++ (L2 ++ (R1 ++ (R2 ++ Y))))) := by have := unhide HK; simpa only [List.append_assoc] using this
        have hrot : 0 < L2.length → 0 < R1.length → ∀ W, iblk W D 3 (X ++ (L1 ++ (L2 ++ (R1 ++ (R2 ++ Y))))) → Calls Try.prog 68 #[.slice (some ⟨D, 0, none⟩) m m, .int .i64 (i : Int), .int .i64 (q : Int), .int .i64 (eN : Int), .func (.func 44) #[] #[c]] W fun e w' => e = .returned (.tuple #[]) ∧ iblk w' D 3 (X ++ (L1 ++ (R1 ++ (L2 ++ (R2 ++ Y))))) ∧ But D W w' := by
          intro g1 g2 W hW
          have h := rot_any D m (.func (.func 44) #[] #[c]) (X ++ L1) L2 R1 (R2 ++ Y) W hm (by simp only [List.length_append]; omega) g1 g2 (by rw [List.append_assoc]; exact hW)
          rw [show (X ++ L1).length = i by rw [List.length_append]; omega, hl2, hr1, List.append_assoc] at h
          exact h
        have hrec1 : 0 < L1.length → 0 < R1.length → ∀ W, Env W → iblk W D 3 (X ++ (L1 ++ (R1 ++ (L2 ++ (R2 ++ Y))))) → Calls Try.prog 62 #[.slice (some ⟨D, 0, none⟩) m m, .int .i64 (p : Int), .int .i64 (i : Int), .int .i64 (mid : Int), .func (.func 44) #[] #[c]] W fun e w' => e = .returned (.tuple #[]) ∧ Merged rem D X L1 R1 (L2 ++ (R2 ++ Y)) W w' := by
          intro g1 g2 W hE hW
          have h := unhide HREC X L1 R1 (L2 ++ (R2 ++ Y)) W (by simp only [List.length_append]; omega) (by simp only [List.length_append]; omega) g1 g2 tw1 hE hW
          rw [hpx, hl1, show i + R1.length = mid by omega] at h
          exact h
        have hrec2 : 0 < L2.length → 0 < R2.length → ∀ M1 : List Int, M1.length = L1.length + R1.length → ∀ W, Env W → iblk W D 3 (X ++ (M1 ++ (L2 ++ (R2 ++ Y)))) → Calls Try.prog 62 #[.slice (some ⟨D, 0, none⟩) m m, .int .i64 (mid : Int), .int .i64 (eN : Int), .int .i64 (r : Int), .func (.func 44) #[] #[c]] W fun e w' => e = .returned (.tuple #[]) ∧ Merged rem D (X ++ M1) L2 R2 Y W w' := by
          intro g1 g2 M1 hM W hE hW
          have h := unhide HREC (X ++ M1) L2 R2 Y W (by simp only [List.length_append]; omega) (by simp only [List.length_append]; omega) g1 g2 tw2 hE (by rw [List.append_assoc]; exact hW)
          rw [show (X ++ M1).length = mid by rw [List.length_append]; omega, show mid + L2.length = eN by omega, hr2] at h
          exact h
        have fin : ∀ M1 M2 : List Int, M1.Pairwise (ltR rem) → M1.Perm (L1 ++ R1) → M2.Pairwise (ltR rem) → M2.Perm (L2 ++ R2) → ∀ W, iblk W D 3 (X ++ (M1 ++ (M2 ++ Y))) → But D w W → Merged rem D X (L1 ++ L2) (R1 ++ R2) Y w W := by
          intro M1 M2 s1 p1 s2 p2 W hW hB
          obtain ⟨h1, h2⟩ := sym_join s1 p1 s2 p2 hbord
          exact ⟨M1 ++ M2, h1, h2, by rw [List.append_assoc]; exact hW, hB⟩
        have s11 := tw1.s1
        have s12 := tw1.s2
        have s21 := tw2.s1
        have s22 := tw2.s2
        have HROT := hide hrot
        have HREC1 := hide hrec1
        have HREC2 := hide hrec2
        have FIN := hide fin
        have HK0 := hide hK0
        have SS := hide (And.intro s11 (And.intro s12 (And.intro s21 s22)))
        have HL1 := hide hl1
        have HL2 := hide hl2
        have HR1 := hide hr1
        have HR2 := hide hr2
        have HMD : Hid (i + R1.length = mid) := hide (by omega)
        clear hrot hrec1 hrec2 fin hK0 s11 s12 s21 s22 hbord tw1 tw2 hpx hrl HREC HT HA HB HK HLEN hl1 hl2 hr1 hr2 hsq hsr
        by_cases hx2 : 0 < L2.length
        · by_cases hx1 : 0 < R1.length
          · by_cases hx3 : 0 < L1.length
            · by_cases hx4 : 0 < R2.length
              · try (exfalso; have := unhide HL1; have := unhide HL2; have := unhide HR1; have := unhide HR2; have := unhide HMD; omega)
                all_goals
                  have f1 : decide ((i : Int) < (q : Int)) = true := decide_eq_true (by have := unhide HL1; have := unhide HL2; have := unhide HR1; have := unhide HR2; have := unhide HMD; omega)
                  have g1 : ((i : Int) < (q : Int)) := by have := unhide HL1; have := unhide HL2; have := unhide HR1; have := unhide HR2; have := unhide HMD; omega
                  have f2 : decide ((q : Int) < (eN : Int)) = true := decide_eq_true (by have := unhide HL1; have := unhide HL2; have := unhide HR1; have := unhide HR2; have := unhide HMD; omega)
                  have g2 : ((q : Int) < (eN : Int)) := by have := unhide HL1; have := unhide HL2; have := unhide HR1; have := unhide HR2; have := unhide HMD; omega
                  have f3 : decide ((p : Int) < (i : Int)) = true := decide_eq_true (by have := unhide HL1; have := unhide HL2; have := unhide HR1; have := unhide HR2; have := unhide HMD; omega)
                  have g3 : ((p : Int) < (i : Int)) := by have := unhide HL1; have := unhide HL2; have := unhide HR1; have := unhide HR2; have := unhide HMD; omega
                  have f4 : decide ((i : Int) < (mid : Int)) = true := decide_eq_true (by have := unhide HL1; have := unhide HL2; have := unhide HR1; have := unhide HR2; have := unhide HMD; omega)
                  have g4 : ((i : Int) < (mid : Int)) := by have := unhide HL1; have := unhide HL2; have := unhide HR1; have := unhide HR2; have := unhide HMD; omega
                  have f5 : decide ((mid : Int) < (eN : Int)) = true := decide_eq_true (by have := unhide HL1; have := unhide HL2; have := unhide HR1; have := unhide HR2; have := unhide HMD; omega)
                  have g5 : ((mid : Int) < (eN : Int)) := by have := unhide HL1; have := unhide HL2; have := unhide HR1; have := unhide HR2; have := unhide HMD; omega
                  have f6 : decide ((eN : Int) < (r : Int)) = true := decide_eq_true (by have := unhide HL1; have := unhide HL2; have := unhide HR1; have := unhide HR2; have := unhide HMD; omega)
                  have g6 : ((eN : Int) < (r : Int)) := by have := unhide HL1; have := unhide HL2; have := unhide HR1; have := unhide HR2; have := unhide HMD; omega
                  go_wp2_with fail
                  refine (unhide HROT hx2 hx1 _ (unhide HK0)).mono ?_
                  rintro e WA ⟨rfl, hk1, hb1⟩
                  have HK1 := hide hk1
                  have HBA := hide ((unhide HW).trans hb1)
                  clear hk1 hb1
                  go_wp2_with fail
                  refine (unhide HREC1 hx3 hx1 _ ((unhide HH).keep w _ (unhide HE) (unhide HBA)) (unhide HK1)).mono ?_
                  rintro e WB ⟨rfl, M1, sm1, pm1, hk1, hb1⟩
                  have HK2 := hide hk1
                  have HBB := hide ((unhide HBA).trans hb1)
                  have HM1 := hide (And.intro sm1 pm1)
                  have hm1 : M1.length = L1.length + R1.length := by rw [pm1.length_eq, List.length_append]
                  have HLM := hide hm1
                  clear hk1 hb1 sm1 pm1 hm1
                  go_wp2_with fail
                  refine (unhide HREC2 hx2 hx4 M1 (unhide HLM) _ ((unhide HH).keep w _ (unhide HE) (unhide HBB)) (unhide HK2)).mono ?_
                  rintro e WC ⟨rfl, M2, sm2, pm2, hk1, hb1⟩
                  have HK3 := hide hk1
                  have HBC := hide ((unhide HBB).trans hb1)
                  have HM2 := hide (And.intro sm2 pm2)
                  clear hk1 hb1 sm2 pm2
                  go_wp2_with fail
                  exact bodyPost_end (v := .tuple #[]) (by simp [results, Try.results62, go_sem]) rfl ⟨rfl, unhide FIN M1 M2 (unhide HM1).1 (unhide HM1).2 (unhide HM2).1 (unhide HM2).2 _ (by have := unhide HK3; rwa [List.append_assoc] at this) (unhide HBC)⟩
              · try (exfalso; have := unhide HL1; have := unhide HL2; have := unhide HR1; have := unhide HR2; have := unhide HMD; omega)
                all_goals
                  have f1 : decide ((i : Int) < (q : Int)) = true := decide_eq_true (by have := unhide HL1; have := unhide HL2; have := unhide HR1; have := unhide HR2; have := unhide HMD; omega)
                  have g1 : ((i : Int) < (q : Int)) := by have := unhide HL1; have := unhide HL2; have := unhide HR1; have := unhide HR2; have := unhide HMD; omega
                  have f2 : decide ((q : Int) < (eN : Int)) = true := decide_eq_true (by have := unhide HL1; have := unhide HL2; have := unhide HR1; have := unhide HR2; have := unhide HMD; omega)
                  have g2 : ((q : Int) < (eN : Int)) := by have := unhide HL1; have := unhide HL2; have := unhide HR1; have := unhide HR2; have := unhide HMD; omega
                  have f3 : decide ((p : Int) < (i : Int)) = true := decide_eq_true (by have := unhide HL1; have := unhide HL2; have := unhide HR1; have := unhide HR2; have := unhide HMD; omega)
                  have g3 : ((p : Int) < (i : Int)) := by have := unhide HL1; have := unhide HL2; have := unhide HR1; have := unhide HR2; have := unhide HMD; omega
                  have f4 : decide ((i : Int) < (mid : Int)) = true := decide_eq_true (by have := unhide HL1; have := unhide HL2; have := unhide HR1; have := unhide HR2; have := unhide HMD; omega)
                  have g4 : ((i : Int) < (mid : Int)) := by have := unhide HL1; have := unhide HL2; have := unhide HR1; have := unhide HR2; have := unhide HMD; omega
                  have f5 : decide ((mid : Int) < (eN : Int)) = true := decide_eq_true (by have := unhide HL1; have := unhide HL2; have := unhide HR1; have := unhide HR2; have := unhide HMD; omega)
                  have g5 : ((mid : Int) < (eN : Int)) := by have := unhide HL1; have := unhide HL2; have := unhide HR1; have := unhide HR2; have := unhide HMD; omega
                  have f6 : decide ((eN : Int) < (r : Int)) = false := decide_eq_false (by have := unhide HL1; have := unhide HL2; have := unhide HR1; have := unhide HR2; have := unhide HMD; omega)
                  have g6 : ¬ ((eN : Int) < (r : Int)) := by have := unhide HL1; have := unhide HL2; have := unhide HR1; have := unhide HR2; have := unhide HMD; omega
                  go_wp2_with fail
                  refine (unhide HROT hx2 hx1 _ (unhide HK0)).mono ?_
                  rintro e WA ⟨rfl, hk1, hb1⟩
                  have HK1 := hide hk1
                  have HBA := hide ((unhide HW).trans hb1)
                  clear hk1 hb1
                  go_wp2_with fail
                  refine (unhide HREC1 hx3 hx1 _ ((unhide HH).keep w _ (unhide HE) (unhide HBA)) (unhide HK1)).mono ?_
                  rintro e WB ⟨rfl, M1, sm1, pm1, hk1, hb1⟩
                  have HK2 := hide hk1
                  have HBB := hide ((unhide HBA).trans hb1)
                  have HM1 := hide (And.intro sm1 pm1)
                  have hm1 : M1.length = L1.length + R1.length := by rw [pm1.length_eq, List.length_append]
                  have HLM := hide hm1
                  clear hk1 hb1 sm1 pm1 hm1
                  go_wp2_with fail
                  have e2 : R2 = [] := List.eq_nil_of_length_eq_zero (by omega)
                  exact bodyPost_end (v := .tuple #[]) (by simp [results, Try.results62, go_sem]) rfl ⟨rfl, unhide FIN M1 (L2 ++ R2) (unhide HM1).1 (unhide HM1).2 (by rw [e2]; simpa using (unhide SS).2.2.1) (List.Perm.refl _) _ (by have := unhide HK2; rw [List.append_assoc]; exact this) (unhide HBB)⟩
            · by_cases hx4 : 0 < R2.length
              · try (exfalso; have := unhide HL1; have := unhide HL2; have := unhide HR1; have := unhide HR2; have := unhide HMD; omega)
                all_goals
                  have f1 : decide ((i : Int) < (q : Int)) = true := decide_eq_true (by have := unhide HL1; have := unhide HL2; have := unhide HR1; have := unhide HR2; have := unhide HMD; omega)
                  have g1 : ((i : Int) < (q : Int)) := by have := unhide HL1; have := unhide HL2; have := unhide HR1; have := unhide HR2; have := unhide HMD; omega
                  have f2 : decide ((q : Int) < (eN : Int)) = true := decide_eq_true (by have := unhide HL1; have := unhide HL2; have := unhide HR1; have := unhide HR2; have := unhide HMD; omega)
                  have g2 : ((q : Int) < (eN : Int)) := by have := unhide HL1; have := unhide HL2; have := unhide HR1; have := unhide HR2; have := unhide HMD; omega
                  have f3 : decide ((p : Int) < (i : Int)) = false := decide_eq_false (by have := unhide HL1; have := unhide HL2; have := unhide HR1; have := unhide HR2; have := unhide HMD; omega)
                  have g3 : ¬ ((p : Int) < (i : Int)) := by have := unhide HL1; have := unhide HL2; have := unhide HR1; have := unhide HR2; have := unhide HMD; omega
                  have f4 : decide ((i : Int) < (mid : Int)) = true := decide_eq_true (by have := unhide HL1; have := unhide HL2; have := unhide HR1; have := unhide HR2; have := unhide HMD; omega)
                  have g4 : ((i : Int) < (mid : Int)) := by have := unhide HL1; have := unhide HL2; have := unhide HR1; have := unhide HR2; have := unhide HMD; omega
                  have f5 : decide ((mid : Int) < (eN : Int)) = true := decide_eq_true (by have := unhide HL1; have := unhide HL2; have := unhide HR1; have := unhide HR2; have := unhide HMD; omega)
                  have g5 : ((mid : Int) < (eN : Int)) := by have := unhide HL1; have := unhide HL2; have := unhide HR1; have := unhide HR2; have := unhide HMD; omega
                  have f6 : decide ((eN : Int) < (r : Int)) = true := decide_eq_true (by have := unhide HL1; have := unhide HL2; have := unhide HR1; have := unhide HR2; have := unhide HMD; omega)
                  have g6 : ((eN : Int) < (r : Int)) := by have := unhide HL1; have := unhide HL2; have := unhide HR1; have := unhide HR2; have := unhide HMD; omega
                  go_wp2_with fail
                  refine (unhide HROT hx2 hx1 _ (unhide HK0)).mono ?_
                  rintro e WA ⟨rfl, hk1, hb1⟩
                  have HK1 := hide hk1
                  have HBA := hide ((unhide HW).trans hb1)
                  clear hk1 hb1
                  have e1 : L1 = [] := List.eq_nil_of_length_eq_zero (by omega)
                  obtain ⟨M1, hM1⟩ : ∃ M1, M1 = L1 ++ R1 := ⟨_, rfl⟩
                  have HM1 : Hid (M1.Pairwise (ltR rem) ∧ M1.Perm (L1 ++ R1)) := hide (by subst hM1; refine ⟨?_, List.Perm.refl _⟩; rw [e1]; simpa using (unhide SS).2.1)
                  have HLM : Hid (M1.length = L1.length + R1.length) := hide (by rw [hM1, List.length_append])
                  have HK2 := hide (show iblk _ D 3 (X ++ (M1 ++ (L2 ++ (R2 ++ Y)))) by have := unhide HK1; rw [hM1, List.append_assoc]; exact this)
                  have HBB := HBA
                  clear e1 hM1
                  go_wp2_with fail
                  refine (unhide HREC2 hx2 hx4 M1 (unhide HLM) _ ((unhide HH).keep w _ (unhide HE) (unhide HBB)) (unhide HK2)).mono ?_
                  rintro e WC ⟨rfl, M2, sm2, pm2, hk1, hb1⟩
                  have HK3 := hide hk1
                  have HBC := hide ((unhide HBB).trans hb1)
                  have HM2 := hide (And.intro sm2 pm2)
                  clear hk1 hb1 sm2 pm2
                  go_wp2_with fail
                  exact bodyPost_end (v := .tuple #[]) (by simp [results, Try.results62, go_sem]) rfl ⟨rfl, unhide FIN M1 M2 (unhide HM1).1 (unhide HM1).2 (unhide HM2).1 (unhide HM2).2 _ (by have := unhide HK3; rwa [List.append_assoc] at this) (unhide HBC)⟩
              · try (exfalso; have := unhide HL1; have := unhide HL2; have := unhide HR1; have := unhide HR2; have := unhide HMD; omega)
                all_goals
                  have f1 : decide ((i : Int) < (q : Int)) = true := decide_eq_true (by have := unhide HL1; have := unhide HL2; have := unhide HR1; have := unhide HR2; have := unhide HMD; omega)
                  have g1 : ((i : Int) < (q : Int)) := by have := unhide HL1; have := unhide HL2; have := unhide HR1; have := unhide HR2; have := unhide HMD; omega
                  have f2 : decide ((q : Int) < (eN : Int)) = true := decide_eq_true (by have := unhide HL1; have := unhide HL2; have := unhide HR1; have := unhide HR2; have := unhide HMD; omega)
                  have g2 : ((q : Int) < (eN : Int)) := by have := unhide HL1; have := unhide HL2; have := unhide HR1; have := unhide HR2; have := unhide HMD; omega
                  have f3 : decide ((p : Int) < (i : Int)) = false := decide_eq_false (by have := unhide HL1; have := unhide HL2; have := unhide HR1; have := unhide HR2; have := unhide HMD; omega)
                  have g3 : ¬ ((p : Int) < (i : Int)) := by have := unhide HL1; have := unhide HL2; have := unhide HR1; have := unhide HR2; have := unhide HMD; omega
                  have f4 : decide ((i : Int) < (mid : Int)) = true := decide_eq_true (by have := unhide HL1; have := unhide HL2; have := unhide HR1; have := unhide HR2; have := unhide HMD; omega)
                  have g4 : ((i : Int) < (mid : Int)) := by have := unhide HL1; have := unhide HL2; have := unhide HR1; have := unhide HR2; have := unhide HMD; omega
                  have f5 : decide ((mid : Int) < (eN : Int)) = true := decide_eq_true (by have := unhide HL1; have := unhide HL2; have := unhide HR1; have := unhide HR2; have := unhide HMD; omega)
                  have g5 : ((mid : Int) < (eN : Int)) := by have := unhide HL1; have := unhide HL2; have := unhide HR1; have := unhide HR2; have := unhide HMD; omega
                  have f6 : decide ((eN : Int) < (r : Int)) = false := decide_eq_false (by have := unhide HL1; have := unhide HL2; have := unhide HR1; have := unhide HR2; have := unhide HMD; omega)
                  have g6 : ¬ ((eN : Int) < (r : Int)) := by have := unhide HL1; have := unhide HL2; have := unhide HR1; have := unhide HR2; have := unhide HMD; omega
                  go_wp2_with fail
                  refine (unhide HROT hx2 hx1 _ (unhide HK0)).mono ?_
                  rintro e WA ⟨rfl, hk1, hb1⟩
                  have HK1 := hide hk1
                  have HBA := hide ((unhide HW).trans hb1)
                  clear hk1 hb1
                  have e1 : L1 = [] := List.eq_nil_of_length_eq_zero (by omega)
                  obtain ⟨M1, hM1⟩ : ∃ M1, M1 = L1 ++ R1 := ⟨_, rfl⟩
                  have HM1 : Hid (M1.Pairwise (ltR rem) ∧ M1.Perm (L1 ++ R1)) := hide (by subst hM1; refine ⟨?_, List.Perm.refl _⟩; rw [e1]; simpa using (unhide SS).2.1)
                  have HLM : Hid (M1.length = L1.length + R1.length) := hide (by rw [hM1, List.length_append])
                  have HK2 := hide (show iblk _ D 3 (X ++ (M1 ++ (L2 ++ (R2 ++ Y)))) by have := unhide HK1; rw [hM1, List.append_assoc]; exact this)
                  have HBB := HBA
                  clear e1 hM1
                  go_wp2_with fail
                  have e2 : R2 = [] := List.eq_nil_of_length_eq_zero (by omega)
                  exact bodyPost_end (v := .tuple #[]) (by simp [results, Try.results62, go_sem]) rfl ⟨rfl, unhide FIN M1 (L2 ++ R2) (unhide HM1).1 (unhide HM1).2 (by rw [e2]; simpa using (unhide SS).2.2.1) (List.Perm.refl _) _ (by have := unhide HK2; rw [List.append_assoc]; exact this) (unhide HBB)⟩
          · by_cases hx3 : 0 < L1.length
            · by_cases hx4 : 0 < R2.length
              · try (exfalso; have := unhide HL1; have := unhide HL2; have := unhide HR1; have := unhide HR2; have := unhide HMD; omega)
                all_goals
                  have f1 : decide ((i : Int) < (q : Int)) = true := decide_eq_true (by have := unhide HL1; have := unhide HL2; have := unhide HR1; have := unhide HR2; have := unhide HMD; omega)
                  have g1 : ((i : Int) < (q : Int)) := by have := unhide HL1; have := unhide HL2; have := unhide HR1; have := unhide HR2; have := unhide HMD; omega
                  have f2 : decide ((q : Int) < (eN : Int)) = false := decide_eq_false (by have := unhide HL1; have := unhide HL2; have := unhide HR1; have := unhide HR2; have := unhide HMD; omega)
                  have g2 : ¬ ((q : Int) < (eN : Int)) := by have := unhide HL1; have := unhide HL2; have := unhide HR1; have := unhide HR2; have := unhide HMD; omega
                  have f3 : decide ((p : Int) < (i : Int)) = true := decide_eq_true (by have := unhide HL1; have := unhide HL2; have := unhide HR1; have := unhide HR2; have := unhide HMD; omega)
                  have g3 : ((p : Int) < (i : Int)) := by have := unhide HL1; have := unhide HL2; have := unhide HR1; have := unhide HR2; have := unhide HMD; omega
                  have f4 : decide ((i : Int) < (mid : Int)) = false := decide_eq_false (by have := unhide HL1; have := unhide HL2; have := unhide HR1; have := unhide HR2; have := unhide HMD; omega)
                  have g4 : ¬ ((i : Int) < (mid : Int)) := by have := unhide HL1; have := unhide HL2; have := unhide HR1; have := unhide HR2; have := unhide HMD; omega
                  have f5 : decide ((mid : Int) < (eN : Int)) = true := decide_eq_true (by have := unhide HL1; have := unhide HL2; have := unhide HR1; have := unhide HR2; have := unhide HMD; omega)
                  have g5 : ((mid : Int) < (eN : Int)) := by have := unhide HL1; have := unhide HL2; have := unhide HR1; have := unhide HR2; have := unhide HMD; omega
                  have f6 : decide ((eN : Int) < (r : Int)) = true := decide_eq_true (by have := unhide HL1; have := unhide HL2; have := unhide HR1; have := unhide HR2; have := unhide HMD; omega)
                  have g6 : ((eN : Int) < (r : Int)) := by have := unhide HL1; have := unhide HL2; have := unhide HR1; have := unhide HR2; have := unhide HMD; omega
                  have e0 : R1 = [] := List.eq_nil_of_length_eq_zero (by omega)
                  have HK1 : Hid (iblk wr D 3 (X ++ (L1 ++ (R1 ++ (L2 ++ (R2 ++ Y)))))) := hide (by have := unhide HK0; rw [e0] at this ⊢; exact this)
                  have HBA := HW
                  clear e0
                  have e1 : R1 = [] := List.eq_nil_of_length_eq_zero (by omega)
                  obtain ⟨M1, hM1⟩ : ∃ M1, M1 = L1 ++ R1 := ⟨_, rfl⟩
                  have HM1 : Hid (M1.Pairwise (ltR rem) ∧ M1.Perm (L1 ++ R1)) := hide (by subst hM1; refine ⟨?_, List.Perm.refl _⟩; rw [e1]; simpa using (unhide SS).1)
                  have HLM : Hid (M1.length = L1.length + R1.length) := hide (by rw [hM1, List.length_append])
                  have HK2 := hide (show iblk _ D 3 (X ++ (M1 ++ (L2 ++ (R2 ++ Y)))) by have := unhide HK1; rw [hM1, List.append_assoc]; exact this)
                  have HBB := HBA
                  clear e1 hM1
                  go_wp2_with fail
                  refine (unhide HREC2 hx2 hx4 M1 (unhide HLM) _ ((unhide HH).keep w _ (unhide HE) (unhide HBB)) (unhide HK2)).mono ?_
                  rintro e WC ⟨rfl, M2, sm2, pm2, hk1, hb1⟩
                  have HK3 := hide hk1
                  have HBC := hide ((unhide HBB).trans hb1)
                  have HM2 := hide (And.intro sm2 pm2)
                  clear hk1 hb1 sm2 pm2
                  go_wp2_with fail
                  exact bodyPost_end (v := .tuple #[]) (by simp [results, Try.results62, go_sem]) rfl ⟨rfl, unhide FIN M1 M2 (unhide HM1).1 (unhide HM1).2 (unhide HM2).1 (unhide HM2).2 _ (by have := unhide HK3; rwa [List.append_assoc] at this) (unhide HBC)⟩
              · try (exfalso; have := unhide HL1; have := unhide HL2; have := unhide HR1; have := unhide HR2; have := unhide HMD; omega)
                all_goals
                  have f1 : decide ((i : Int) < (q : Int)) = true := decide_eq_true (by have := unhide HL1; have := unhide HL2; have := unhide HR1; have := unhide HR2; have := unhide HMD; omega)
                  have g1 : ((i : Int) < (q : Int)) := by have := unhide HL1; have := unhide HL2; have := unhide HR1; have := unhide HR2; have := unhide HMD; omega
                  have f2 : decide ((q : Int) < (eN : Int)) = false := decide_eq_false (by have := unhide HL1; have := unhide HL2; have := unhide HR1; have := unhide HR2; have := unhide HMD; omega)
                  have g2 : ¬ ((q : Int) < (eN : Int)) := by have := unhide HL1; have := unhide HL2; have := unhide HR1; have := unhide HR2; have := unhide HMD; omega
                  have f3 : decide ((p : Int) < (i : Int)) = true := decide_eq_true (by have := unhide HL1; have := unhide HL2; have := unhide HR1; have := unhide HR2; have := unhide HMD; omega)
                  have g3 : ((p : Int) < (i : Int)) := by have := unhide HL1; have := unhide HL2; have := unhide HR1; have := unhide HR2; have := unhide HMD; omega
                  have f4 : decide ((i : Int) < (mid : Int)) = false := decide_eq_false (by have := unhide HL1; have := unhide HL2; have := unhide HR1; have := unhide HR2; have := unhide HMD; omega)
                  have g4 : ¬ ((i : Int) < (mid : Int)) := by have := unhide HL1; have := unhide HL2; have := unhide HR1; have := unhide HR2; have := unhide HMD; omega
                  have f5 : decide ((mid : Int) < (eN : Int)) = true := decide_eq_true (by have := unhide HL1; have := unhide HL2; have := unhide HR1; have := unhide HR2; have := unhide HMD; omega)
                  have g5 : ((mid : Int) < (eN : Int)) := by have := unhide HL1; have := unhide HL2; have := unhide HR1; have := unhide HR2; have := unhide HMD; omega
                  have f6 : decide ((eN : Int) < (r : Int)) = false := decide_eq_false (by have := unhide HL1; have := unhide HL2; have := unhide HR1; have := unhide HR2; have := unhide HMD; omega)
                  have g6 : ¬ ((eN : Int) < (r : Int)) := by have := unhide HL1; have := unhide HL2; have := unhide HR1; have := unhide HR2; have := unhide HMD; omega
                  have e0 : R1 = [] := List.eq_nil_of_length_eq_zero (by omega)
                  have HK1 : Hid (iblk wr D 3 (X ++ (L1 ++ (R1 ++ (L2 ++ (R2 ++ Y)))))) := hide (by have := unhide HK0; rw [e0] at this ⊢; exact this)
                  have HBA := HW
                  clear e0
                  have e1 : R1 = [] := List.eq_nil_of_length_eq_zero (by omega)
                  obtain ⟨M1, hM1⟩ : ∃ M1, M1 = L1 ++ R1 := ⟨_, rfl⟩
                  have HM1 : Hid (M1.Pairwise (ltR rem) ∧ M1.Perm (L1 ++ R1)) := hide (by subst hM1; refine ⟨?_, List.Perm.refl _⟩; rw [e1]; simpa using (unhide SS).1)
                  have HLM : Hid (M1.length = L1.length + R1.length) := hide (by rw [hM1, List.length_append])
                  have HK2 := hide (show iblk _ D 3 (X ++ (M1 ++ (L2 ++ (R2 ++ Y)))) by have := unhide HK1; rw [hM1, List.append_assoc]; exact this)
                  have HBB := HBA
                  clear e1 hM1
                  go_wp2_with fail
                  have e2 : R2 = [] := List.eq_nil_of_length_eq_zero (by omega)
                  exact bodyPost_end (v := .tuple #[]) (by simp [results, Try.results62, go_sem]) rfl ⟨rfl, unhide FIN M1 (L2 ++ R2) (unhide HM1).1 (unhide HM1).2 (by rw [e2]; simpa using (unhide SS).2.2.1) (List.Perm.refl _) _ (by have := unhide HK2; rw [List.append_assoc]; exact this) (unhide HBB)⟩
            · by_cases hx4 : 0 < R2.length
              · try (exfalso; have := unhide HL1; have := unhide HL2; have := unhide HR1; have := unhide HR2; have := unhide HMD; omega)
                all_goals
                  have f1 : decide ((i : Int) < (q : Int)) = true := decide_eq_true (by have := unhide HL1; have := unhide HL2; have := unhide HR1; have := unhide HR2; have := unhide HMD; omega)
                  have g1 : ((i : Int) < (q : Int)) := by have := unhide HL1; have := unhide HL2; have := unhide HR1; have := unhide HR2; have := unhide HMD; omega
                  have f2 : decide ((q : Int) < (eN : Int)) = false := decide_eq_false (by have := unhide HL1; have := unhide HL2; have := unhide HR1; have := unhide HR2; have := unhide HMD; omega)
                  have g2 : ¬ ((q : Int) < (eN : Int)) := by have := unhide HL1; have := unhide HL2; have := unhide HR1; have := unhide HR2; have := unhide HMD; omega
                  have f3 : decide ((p : Int) < (i : Int)) = false := decide_eq_false (by have := unhide HL1; have := unhide HL2; have := unhide HR1; have := unhide HR2; have := unhide HMD; omega)
                  have g3 : ¬ ((p : Int) < (i : Int)) := by have := unhide HL1; have := unhide HL2; have := unhide HR1; have := unhide HR2; have := unhide HMD; omega
                  have f4 : decide ((i : Int) < (mid : Int)) = false := decide_eq_false (by have := unhide HL1; have := unhide HL2; have := unhide HR1; have := unhide HR2; have := unhide HMD; omega)
                  have g4 : ¬ ((i : Int) < (mid : Int)) := by have := unhide HL1; have := unhide HL2; have := unhide HR1; have := unhide HR2; have := unhide HMD; omega
                  have f5 : decide ((mid : Int) < (eN : Int)) = true := decide_eq_true (by have := unhide HL1; have := unhide HL2; have := unhide HR1; have := unhide HR2; have := unhide HMD; omega)
                  have g5 : ((mid : Int) < (eN : Int)) := by have := unhide HL1; have := unhide HL2; have := unhide HR1; have := unhide HR2; have := unhide HMD; omega
                  have f6 : decide ((eN : Int) < (r : Int)) = true := decide_eq_true (by have := unhide HL1; have := unhide HL2; have := unhide HR1; have := unhide HR2; have := unhide HMD; omega)
                  have g6 : ((eN : Int) < (r : Int)) := by have := unhide HL1; have := unhide HL2; have := unhide HR1; have := unhide HR2; have := unhide HMD; omega
                  have e0 : R1 = [] := List.eq_nil_of_length_eq_zero (by omega)
                  have HK1 : Hid (iblk wr D 3 (X ++ (L1 ++ (R1 ++ (L2 ++ (R2 ++ Y)))))) := hide (by have := unhide HK0; rw [e0] at this ⊢; exact this)
                  have HBA := HW
                  clear e0
                  have e1 : R1 = [] := List.eq_nil_of_length_eq_zero (by omega)
                  obtain ⟨M1, hM1⟩ : ∃ M1, M1 = L1 ++ R1 := ⟨_, rfl⟩
                  have HM1 : Hid (M1.Pairwise (ltR rem) ∧ M1.Perm (L1 ++ R1)) := hide (by subst hM1; refine ⟨?_, List.Perm.refl _⟩; rw [e1]; simpa using (unhide SS).1)
                  have HLM : Hid (M1.length = L1.length + R1.length) := hide (by rw [hM1, List.length_append])
                  have HK2 := hide (show iblk _ D 3 (X ++ (M1 ++ (L2 ++ (R2 ++ Y)))) by have := unhide HK1; rw [hM1, List.append_assoc]; exact this)
                  have HBB := HBA
                  clear e1 hM1
                  go_wp2_with fail
                  refine (unhide HREC2 hx2 hx4 M1 (unhide HLM) _ ((unhide HH).keep w _ (unhide HE) (unhide HBB)) (unhide HK2)).mono ?_
                  rintro e WC ⟨rfl, M2, sm2, pm2, hk1, hb1⟩
                  have HK3 := hide hk1
                  have HBC := hide ((unhide HBB).trans hb1)
                  have HM2 := hide (And.intro sm2 pm2)
                  clear hk1 hb1 sm2 pm2
                  go_wp2_with fail
                  exact bodyPost_end (v := .tuple #[]) (by simp [results, Try.results62, go_sem]) rfl ⟨rfl, unhide FIN M1 M2 (unhide HM1).1 (unhide HM1).2 (unhide HM2).1 (unhide HM2).2 _ (by have := unhide HK3; rwa [List.append_assoc] at this) (unhide HBC)⟩
              · try (exfalso; have := unhide HL1; have := unhide HL2; have := unhide HR1; have := unhide HR2; have := unhide HMD; omega)
                all_goals
                  have f1 : decide ((i : Int) < (q : Int)) = true := decide_eq_true (by have := unhide HL1; have := unhide HL2; have := unhide HR1; have := unhide HR2; have := unhide HMD; omega)
                  have g1 : ((i : Int) < (q : Int)) := by have := unhide HL1; have := unhide HL2; have := unhide HR1; have := unhide HR2; have := unhide HMD; omega
                  have f2 : decide ((q : Int) < (eN : Int)) = false := decide_eq_false (by have := unhide HL1; have := unhide HL2; have := unhide HR1; have := unhide HR2; have := unhide HMD; omega)
                  have g2 : ¬ ((q : Int) < (eN : Int)) := by have := unhide HL1; have := unhide HL2; have := unhide HR1; have := unhide HR2; have := unhide HMD; omega
                  have f3 : decide ((p : Int) < (i : Int)) = false := decide_eq_false (by have := unhide HL1; have := unhide HL2; have := unhide HR1; have := unhide HR2; have := unhide HMD; omega)
                  have g3 : ¬ ((p : Int) < (i : Int)) := by have := unhide HL1; have := unhide HL2; have := unhide HR1; have := unhide HR2; have := unhide HMD; omega
                  have f4 : decide ((i : Int) < (mid : Int)) = false := decide_eq_false (by have := unhide HL1; have := unhide HL2; have := unhide HR1; have := unhide HR2; have := unhide HMD; omega)
                  have g4 : ¬ ((i : Int) < (mid : Int)) := by have := unhide HL1; have := unhide HL2; have := unhide HR1; have := unhide HR2; have := unhide HMD; omega
                  have f5 : decide ((mid : Int) < (eN : Int)) = true := decide_eq_true (by have := unhide HL1; have := unhide HL2; have := unhide HR1; have := unhide HR2; have := unhide HMD; omega)
                  have g5 : ((mid : Int) < (eN : Int)) := by have := unhide HL1; have := unhide HL2; have := unhide HR1; have := unhide HR2; have := unhide HMD; omega
                  have f6 : decide ((eN : Int) < (r : Int)) = false := decide_eq_false (by have := unhide HL1; have := unhide HL2; have := unhide HR1; have := unhide HR2; have := unhide HMD; omega)
                  have g6 : ¬ ((eN : Int) < (r : Int)) := by have := unhide HL1; have := unhide HL2; have := unhide HR1; have := unhide HR2; have := unhide HMD; omega
                  have e0 : R1 = [] := List.eq_nil_of_length_eq_zero (by omega)
                  have HK1 : Hid (iblk wr D 3 (X ++ (L1 ++ (R1 ++ (L2 ++ (R2 ++ Y)))))) := hide (by have := unhide HK0; rw [e0] at this ⊢; exact this)
                  have HBA := HW
                  clear e0
                  have e1 : R1 = [] := List.eq_nil_of_length_eq_zero (by omega)
                  obtain ⟨M1, hM1⟩ : ∃ M1, M1 = L1 ++ R1 := ⟨_, rfl⟩
                  have HM1 : Hid (M1.Pairwise (ltR rem) ∧ M1.Perm (L1 ++ R1)) := hide (by subst hM1; refine ⟨?_, List.Perm.refl _⟩; rw [e1]; simpa using (unhide SS).1)
                  have HLM : Hid (M1.length = L1.length + R1.length) := hide (by rw [hM1, List.length_append])
                  have HK2 := hide (show iblk _ D 3 (X ++ (M1 ++ (L2 ++ (R2 ++ Y)))) by have := unhide HK1; rw [hM1, List.append_assoc]; exact this)
                  have HBB := HBA
                  clear e1 hM1
                  go_wp2_with fail
                  have e2 : R2 = [] := List.eq_nil_of_length_eq_zero (by omega)
                  exact bodyPost_end (v := .tuple #[]) (by simp [results, Try.results62, go_sem]) rfl ⟨rfl, unhide FIN M1 (L2 ++ R2) (unhide HM1).1 (unhide HM1).2 (by rw [e2]; simpa using (unhide SS).2.2.1) (List.Perm.refl _) _ (by have := unhide HK2; rw [List.append_assoc]; exact this) (unhide HBB)⟩
        · by_cases hx1 : 0 < R1.length
          · by_cases hx3 : 0 < L1.length
            · by_cases hx4 : 0 < R2.length
              · try (exfalso; have := unhide HL1; have := unhide HL2; have := unhide HR1; have := unhide HR2; have := unhide HMD; omega)
                all_goals
                  have f1 : decide ((i : Int) < (q : Int)) = false := decide_eq_false (by have := unhide HL1; have := unhide HL2; have := unhide HR1; have := unhide HR2; have := unhide HMD; omega)
                  have g1 : ¬ ((i : Int) < (q : Int)) := by have := unhide HL1; have := unhide HL2; have := unhide HR1; have := unhide HR2; have := unhide HMD; omega
                  have f2 : decide ((q : Int) < (eN : Int)) = true := decide_eq_true (by have := unhide HL1; have := unhide HL2; have := unhide HR1; have := unhide HR2; have := unhide HMD; omega)
                  have g2 : ((q : Int) < (eN : Int)) := by have := unhide HL1; have := unhide HL2; have := unhide HR1; have := unhide HR2; have := unhide HMD; omega
                  have f3 : decide ((p : Int) < (i : Int)) = true := decide_eq_true (by have := unhide HL1; have := unhide HL2; have := unhide HR1; have := unhide HR2; have := unhide HMD; omega)
                  have g3 : ((p : Int) < (i : Int)) := by have := unhide HL1; have := unhide HL2; have := unhide HR1; have := unhide HR2; have := unhide HMD; omega
                  have f4 : decide ((i : Int) < (mid : Int)) = true := decide_eq_true (by have := unhide HL1; have := unhide HL2; have := unhide HR1; have := unhide HR2; have := unhide HMD; omega)
                  have g4 : ((i : Int) < (mid : Int)) := by have := unhide HL1; have := unhide HL2; have := unhide HR1; have := unhide HR2; have := unhide HMD; omega
                  have f5 : decide ((mid : Int) < (eN : Int)) = false := decide_eq_false (by have := unhide HL1; have := unhide HL2; have := unhide HR1; have := unhide HR2; have := unhide HMD; omega)
                  have g5 : ¬ ((mid : Int) < (eN : Int)) := by have := unhide HL1; have := unhide HL2; have := unhide HR1; have := unhide HR2; have := unhide HMD; omega
                  have f6 : decide ((eN : Int) < (r : Int)) = true := decide_eq_true (by have := unhide HL1; have := unhide HL2; have := unhide HR1; have := unhide HR2; have := unhide HMD; omega)
                  have g6 : ((eN : Int) < (r : Int)) := by have := unhide HL1; have := unhide HL2; have := unhide HR1; have := unhide HR2; have := unhide HMD; omega
                  have e0 : L2 = [] := List.eq_nil_of_length_eq_zero (by omega)
                  have HK1 : Hid (iblk wr D 3 (X ++ (L1 ++ (R1 ++ (L2 ++ (R2 ++ Y)))))) := hide (by have := unhide HK0; rw [e0] at this ⊢; exact this)
                  have HBA := HW
                  clear e0
                  go_wp2_with fail
                  refine (unhide HREC1 hx3 hx1 _ ((unhide HH).keep w _ (unhide HE) (unhide HBA)) (unhide HK1)).mono ?_
                  rintro e WB ⟨rfl, M1, sm1, pm1, hk1, hb1⟩
                  have HK2 := hide hk1
                  have HBB := hide ((unhide HBA).trans hb1)
                  have HM1 := hide (And.intro sm1 pm1)
                  have hm1 : M1.length = L1.length + R1.length := by rw [pm1.length_eq, List.length_append]
                  have HLM := hide hm1
                  clear hk1 hb1 sm1 pm1 hm1
                  go_wp2_with fail
                  have e2 : L2 = [] := List.eq_nil_of_length_eq_zero (by omega)
                  exact bodyPost_end (v := .tuple #[]) (by simp [results, Try.results62, go_sem]) rfl ⟨rfl, unhide FIN M1 (L2 ++ R2) (unhide HM1).1 (unhide HM1).2 (by rw [e2]; simpa using (unhide SS).2.2.2) (List.Perm.refl _) _ (by have := unhide HK2; rw [List.append_assoc]; exact this) (unhide HBB)⟩
              · try (exfalso; have := unhide HL1; have := unhide HL2; have := unhide HR1; have := unhide HR2; have := unhide HMD; omega)
                all_goals
                  have f1 : decide ((i : Int) < (q : Int)) = false := decide_eq_false (by have := unhide HL1; have := unhide HL2; have := unhide HR1; have := unhide HR2; have := unhide HMD; omega)
                  have g1 : ¬ ((i : Int) < (q : Int)) := by have := unhide HL1; have := unhide HL2; have := unhide HR1; have := unhide HR2; have := unhide HMD; omega
                  have f2 : decide ((q : Int) < (eN : Int)) = true := decide_eq_true (by have := unhide HL1; have := unhide HL2; have := unhide HR1; have := unhide HR2; have := unhide HMD; omega)
                  have g2 : ((q : Int) < (eN : Int)) := by have := unhide HL1; have := unhide HL2; have := unhide HR1; have := unhide HR2; have := unhide HMD; omega
                  have f3 : decide ((p : Int) < (i : Int)) = true := decide_eq_true (by have := unhide HL1; have := unhide HL2; have := unhide HR1; have := unhide HR2; have := unhide HMD; omega)
                  have g3 : ((p : Int) < (i : Int)) := by have := unhide HL1; have := unhide HL2; have := unhide HR1; have := unhide HR2; have := unhide HMD; omega
                  have f4 : decide ((i : Int) < (mid : Int)) = true := decide_eq_true (by have := unhide HL1; have := unhide HL2; have := unhide HR1; have := unhide HR2; have := unhide HMD; omega)
                  have g4 : ((i : Int) < (mid : Int)) := by have := unhide HL1; have := unhide HL2; have := unhide HR1; have := unhide HR2; have := unhide HMD; omega
                  have f5 : decide ((mid : Int) < (eN : Int)) = false := decide_eq_false (by have := unhide HL1; have := unhide HL2; have := unhide HR1; have := unhide HR2; have := unhide HMD; omega)
                  have g5 : ¬ ((mid : Int) < (eN : Int)) := by have := unhide HL1; have := unhide HL2; have := unhide HR1; have := unhide HR2; have := unhide HMD; omega
                  have f6 : decide ((eN : Int) < (r : Int)) = false := decide_eq_false (by have := unhide HL1; have := unhide HL2; have := unhide HR1; have := unhide HR2; have := unhide HMD; omega)
                  have g6 : ¬ ((eN : Int) < (r : Int)) := by have := unhide HL1; have := unhide HL2; have := unhide HR1; have := unhide HR2; have := unhide HMD; omega
                  have e0 : L2 = [] := List.eq_nil_of_length_eq_zero (by omega)
                  have HK1 : Hid (iblk wr D 3 (X ++ (L1 ++ (R1 ++ (L2 ++ (R2 ++ Y)))))) := hide (by have := unhide HK0; rw [e0] at this ⊢; exact this)
                  have HBA := HW
                  clear e0
                  go_wp2_with fail
                  refine (unhide HREC1 hx3 hx1 _ ((unhide HH).keep w _ (unhide HE) (unhide HBA)) (unhide HK1)).mono ?_
                  rintro e WB ⟨rfl, M1, sm1, pm1, hk1, hb1⟩
                  have HK2 := hide hk1
                  have HBB := hide ((unhide HBA).trans hb1)
                  have HM1 := hide (And.intro sm1 pm1)
                  have hm1 : M1.length = L1.length + R1.length := by rw [pm1.length_eq, List.length_append]
                  have HLM := hide hm1
                  clear hk1 hb1 sm1 pm1 hm1
                  go_wp2_with fail
                  have e2 : R2 = [] := List.eq_nil_of_length_eq_zero (by omega)
                  exact bodyPost_end (v := .tuple #[]) (by simp [results, Try.results62, go_sem]) rfl ⟨rfl, unhide FIN M1 (L2 ++ R2) (unhide HM1).1 (unhide HM1).2 (by rw [e2]; simpa using (unhide SS).2.2.1) (List.Perm.refl _) _ (by have := unhide HK2; rw [List.append_assoc]; exact this) (unhide HBB)⟩
            · by_cases hx4 : 0 < R2.length
              · try (exfalso; have := unhide HL1; have := unhide HL2; have := unhide HR1; have := unhide HR2; have := unhide HMD; omega)
                all_goals
                  have f1 : decide ((i : Int) < (q : Int)) = false := decide_eq_false (by have := unhide HL1; have := unhide HL2; have := unhide HR1; have := unhide HR2; have := unhide HMD; omega)
                  have g1 : ¬ ((i : Int) < (q : Int)) := by have := unhide HL1; have := unhide HL2; have := unhide HR1; have := unhide HR2; have := unhide HMD; omega
                  have f2 : decide ((q : Int) < (eN : Int)) = true := decide_eq_true (by have := unhide HL1; have := unhide HL2; have := unhide HR1; have := unhide HR2; have := unhide HMD; omega)
                  have g2 : ((q : Int) < (eN : Int)) := by have := unhide HL1; have := unhide HL2; have := unhide HR1; have := unhide HR2; have := unhide HMD; omega
                  have f3 : decide ((p : Int) < (i : Int)) = false := decide_eq_false (by have := unhide HL1; have := unhide HL2; have := unhide HR1; have := unhide HR2; have := unhide HMD; omega)
                  have g3 : ¬ ((p : Int) < (i : Int)) := by have := unhide HL1; have := unhide HL2; have := unhide HR1; have := unhide HR2; have := unhide HMD; omega
                  have f4 : decide ((i : Int) < (mid : Int)) = true := decide_eq_true (by have := unhide HL1; have := unhide HL2; have := unhide HR1; have := unhide HR2; have := unhide HMD; omega)
                  have g4 : ((i : Int) < (mid : Int)) := by have := unhide HL1; have := unhide HL2; have := unhide HR1; have := unhide HR2; have := unhide HMD; omega
                  have f5 : decide ((mid : Int) < (eN : Int)) = false := decide_eq_false (by have := unhide HL1; have := unhide HL2; have := unhide HR1; have := unhide HR2; have := unhide HMD; omega)
                  have g5 : ¬ ((mid : Int) < (eN : Int)) := by have := unhide HL1; have := unhide HL2; have := unhide HR1; have := unhide HR2; have := unhide HMD; omega
                  have f6 : decide ((eN : Int) < (r : Int)) = true := decide_eq_true (by have := unhide HL1; have := unhide HL2; have := unhide HR1; have := unhide HR2; have := unhide HMD; omega)
                  have g6 : ((eN : Int) < (r : Int)) := by have := unhide HL1; have := unhide HL2; have := unhide HR1; have := unhide HR2; have := unhide HMD; omega
                  have e0 : L2 = [] := List.eq_nil_of_length_eq_zero (by omega)
                  have HK1 : Hid (iblk wr D 3 (X ++ (L1 ++ (R1 ++ (L2 ++ (R2 ++ Y)))))) := hide (by have := unhide HK0; rw [e0] at this ⊢; exact this)
                  have HBA := HW
                  clear e0
                  have e1 : L1 = [] := List.eq_nil_of_length_eq_zero (by omega)
                  obtain ⟨M1, hM1⟩ : ∃ M1, M1 = L1 ++ R1 := ⟨_, rfl⟩
                  have HM1 : Hid (M1.Pairwise (ltR rem) ∧ M1.Perm (L1 ++ R1)) := hide (by subst hM1; refine ⟨?_, List.Perm.refl _⟩; rw [e1]; simpa using (unhide SS).2.1)
                  have HLM : Hid (M1.length = L1.length + R1.length) := hide (by rw [hM1, List.length_append])
                  have HK2 := hide (show iblk _ D 3 (X ++ (M1 ++ (L2 ++ (R2 ++ Y)))) by have := unhide HK1; rw [hM1, List.append_assoc]; exact this)
                  have HBB := HBA
                  clear e1 hM1
                  go_wp2_with fail
                  have e2 : L2 = [] := List.eq_nil_of_length_eq_zero (by omega)
                  exact bodyPost_end (v := .tuple #[]) (by simp [results, Try.results62, go_sem]) rfl ⟨rfl, unhide FIN M1 (L2 ++ R2) (unhide HM1).1 (unhide HM1).2 (by rw [e2]; simpa using (unhide SS).2.2.2) (List.Perm.refl _) _ (by have := unhide HK2; rw [List.append_assoc]; exact this) (unhide HBB)⟩
              · try (exfalso; have := unhide HL1; have := unhide HL2; have := unhide HR1; have := unhide HR2; have := unhide HMD; omega)
                all_goals
                  have f1 : decide ((i : Int) < (q : Int)) = false := decide_eq_false (by have := unhide HL1; have := unhide HL2; have := unhide HR1; have := unhide HR2; have := unhide HMD; omega)
                  have g1 : ¬ ((i : Int) < (q : Int)) := by have := unhide HL1; have := unhide HL2; have := unhide HR1; have := unhide HR2; have := unhide HMD; omega
                  have f2 : decide ((q : Int) < (eN : Int)) = true := decide_eq_true (by have := unhide HL1; have := unhide HL2; have := unhide HR1; have := unhide HR2; have := unhide HMD; omega)
                  have g2 : ((q : Int) < (eN : Int)) := by have := unhide HL1; have := unhide HL2; have := unhide HR1; have := unhide HR2; have := unhide HMD; omega
                  have f3 : decide ((p : Int) < (i : Int)) = false := decide_eq_false (by have := unhide HL1; have := unhide HL2; have := unhide HR1; have := unhide HR2; have := unhide HMD; omega)
                  have g3 : ¬ ((p : Int) < (i : Int)) := by have := unhide HL1; have := unhide HL2; have := unhide HR1; have := unhide HR2; have := unhide HMD; omega
                  have f4 : decide ((i : Int) < (mid : Int)) = true := decide_eq_true (by have := unhide HL1; have := unhide HL2; have := unhide HR1; have := unhide HR2; have := unhide HMD; omega)
                  have g4 : ((i : Int) < (mid : Int)) := by have := unhide HL1; have := unhide HL2; have := unhide HR1; have := unhide HR2; have := unhide HMD; omega
                  have f5 : decide ((mid : Int) < (eN : Int)) = false := decide_eq_false (by have := unhide HL1; have := unhide HL2; have := unhide HR1; have := unhide HR2; have := unhide HMD; omega)
                  have g5 : ¬ ((mid : Int) < (eN : Int)) := by have := unhide HL1; have := unhide HL2; have := unhide HR1; have := unhide HR2; have := unhide HMD; omega
                  have f6 : decide ((eN : Int) < (r : Int)) = false := decide_eq_false (by have := unhide HL1; have := unhide HL2; have := unhide HR1; have := unhide HR2; have := unhide HMD; omega)
                  have g6 : ¬ ((eN : Int) < (r : Int)) := by have := unhide HL1; have := unhide HL2; have := unhide HR1; have := unhide HR2; have := unhide HMD; omega
                  have e0 : L2 = [] := List.eq_nil_of_length_eq_zero (by omega)
                  have HK1 : Hid (iblk wr D 3 (X ++ (L1 ++ (R1 ++ (L2 ++ (R2 ++ Y)))))) := hide (by have := unhide HK0; rw [e0] at this ⊢; exact this)
                  have HBA := HW
                  clear e0
                  have e1 : L1 = [] := List.eq_nil_of_length_eq_zero (by omega)
                  obtain ⟨M1, hM1⟩ : ∃ M1, M1 = L1 ++ R1 := ⟨_, rfl⟩
                  have HM1 : Hid (M1.Pairwise (ltR rem) ∧ M1.Perm (L1 ++ R1)) := hide (by subst hM1; refine ⟨?_, List.Perm.refl _⟩; rw [e1]; simpa using (unhide SS).2.1)
                  have HLM : Hid (M1.length = L1.length + R1.length) := hide (by rw [hM1, List.length_append])
                  have HK2 := hide (show iblk _ D 3 (X ++ (M1 ++ (L2 ++ (R2 ++ Y)))) by have := unhide HK1; rw [hM1, List.append_assoc]; exact this)
                  have HBB := HBA
                  clear e1 hM1
                  go_wp2_with fail
                  have e2 : R2 = [] := List.eq_nil_of_length_eq_zero (by omega)
                  exact bodyPost_end (v := .tuple #[]) (by simp [results, Try.results62, go_sem]) rfl ⟨rfl, unhide FIN M1 (L2 ++ R2) (unhide HM1).1 (unhide HM1).2 (by rw [e2]; simpa using (unhide SS).2.2.1) (List.Perm.refl _) _ (by have := unhide HK2; rw [List.append_assoc]; exact this) (unhide HBB)⟩
          · by_cases hx3 : 0 < L1.length
            · by_cases hx4 : 0 < R2.length
              · try (exfalso; have := unhide HL1; have := unhide HL2; have := unhide HR1; have := unhide HR2; have := unhide HMD; omega)
                all_goals
                  have f1 : decide ((i : Int) < (q : Int)) = false := decide_eq_false (by have := unhide HL1; have := unhide HL2; have := unhide HR1; have := unhide HR2; have := unhide HMD; omega)
                  have g1 : ¬ ((i : Int) < (q : Int)) := by have := unhide HL1; have := unhide HL2; have := unhide HR1; have := unhide HR2; have := unhide HMD; omega
                  have f2 : decide ((q : Int) < (eN : Int)) = false := decide_eq_false (by have := unhide HL1; have := unhide HL2; have := unhide HR1; have := unhide HR2; have := unhide HMD; omega)
                  have g2 : ¬ ((q : Int) < (eN : Int)) := by have := unhide HL1; have := unhide HL2; have := unhide HR1; have := unhide HR2; have := unhide HMD; omega
                  have f3 : decide ((p : Int) < (i : Int)) = true := decide_eq_true (by have := unhide HL1; have := unhide HL2; have := unhide HR1; have := unhide HR2; have := unhide HMD; omega)
                  have g3 : ((p : Int) < (i : Int)) := by have := unhide HL1; have := unhide HL2; have := unhide HR1; have := unhide HR2; have := unhide HMD; omega
                  have f4 : decide ((i : Int) < (mid : Int)) = false := decide_eq_false (by have := unhide HL1; have := unhide HL2; have := unhide HR1; have := unhide HR2; have := unhide HMD; omega)
                  have g4 : ¬ ((i : Int) < (mid : Int)) := by have := unhide HL1; have := unhide HL2; have := unhide HR1; have := unhide HR2; have := unhide HMD; omega
                  have f5 : decide ((mid : Int) < (eN : Int)) = false := decide_eq_false (by have := unhide HL1; have := unhide HL2; have := unhide HR1; have := unhide HR2; have := unhide HMD; omega)
                  have g5 : ¬ ((mid : Int) < (eN : Int)) := by have := unhide HL1; have := unhide HL2; have := unhide HR1; have := unhide HR2; have := unhide HMD; omega
                  have f6 : decide ((eN : Int) < (r : Int)) = true := decide_eq_true (by have := unhide HL1; have := unhide HL2; have := unhide HR1; have := unhide HR2; have := unhide HMD; omega)
                  have g6 : ((eN : Int) < (r : Int)) := by have := unhide HL1; have := unhide HL2; have := unhide HR1; have := unhide HR2; have := unhide HMD; omega
                  have e0 : R1 = [] := List.eq_nil_of_length_eq_zero (by omega)
                  have HK1 : Hid (iblk wr D 3 (X ++ (L1 ++ (R1 ++ (L2 ++ (R2 ++ Y)))))) := hide (by have := unhide HK0; rw [e0] at this ⊢; exact this)
                  have HBA := HW
                  clear e0
                  have e1 : R1 = [] := List.eq_nil_of_length_eq_zero (by omega)
                  obtain ⟨M1, hM1⟩ : ∃ M1, M1 = L1 ++ R1 := ⟨_, rfl⟩
                  have HM1 : Hid (M1.Pairwise (ltR rem) ∧ M1.Perm (L1 ++ R1)) := hide (by subst hM1; refine ⟨?_, List.Perm.refl _⟩; rw [e1]; simpa using (unhide SS).1)
                  have HLM : Hid (M1.length = L1.length + R1.length) := hide (by rw [hM1, List.length_append])
                  have HK2 := hide (show iblk _ D 3 (X ++ (M1 ++ (L2 ++ (R2 ++ Y)))) by have := unhide HK1; rw [hM1, List.append_assoc]; exact this)
                  have HBB := HBA
                  clear e1 hM1
                  go_wp2_with fail
                  have e2 : L2 = [] := List.eq_nil_of_length_eq_zero (by omega)
                  exact bodyPost_end (v := .tuple #[]) (by simp [results, Try.results62, go_sem]) rfl ⟨rfl, unhide FIN M1 (L2 ++ R2) (unhide HM1).1 (unhide HM1).2 (by rw [e2]; simpa using (unhide SS).2.2.2) (List.Perm.refl _) _ (by have := unhide HK2; rw [List.append_assoc]; exact this) (unhide HBB)⟩
              · try (exfalso; have := unhide HL1; have := unhide HL2; have := unhide HR1; have := unhide HR2; have := unhide HMD; omega)
                all_goals
                  have f1 : decide ((i : Int) < (q : Int)) = false := decide_eq_false (by have := unhide HL1; have := unhide HL2; have := unhide HR1; have := unhide HR2; have := unhide HMD; omega)
                  have g1 : ¬ ((i : Int) < (q : Int)) := by have := unhide HL1; have := unhide HL2; have := unhide HR1; have := unhide HR2; have := unhide HMD; omega
                  have f2 : decide ((q : Int) < (eN : Int)) = false := decide_eq_false (by have := unhide HL1; have := unhide HL2; have := unhide HR1; have := unhide HR2; have := unhide HMD; omega)
                  have g2 : ¬ ((q : Int) < (eN : Int)) := by have := unhide HL1; have := unhide HL2; have := unhide HR1; have := unhide HR2; have := unhide HMD; omega
                  have f3 : decide ((p : Int) < (i : Int)) = true := decide_eq_true (by have := unhide HL1; have := unhide HL2; have := unhide HR1; have := unhide HR2; have := unhide HMD; omega)
                  have g3 : ((p : Int) < (i : Int)) := by have := unhide HL1; have := unhide HL2; have := unhide HR1; have := unhide HR2; have := unhide HMD; omega
                  have f4 : decide ((i : Int) < (mid : Int)) = false := decide_eq_false (by have := unhide HL1; have := unhide HL2; have := unhide HR1; have := unhide HR2; have := unhide HMD; omega)
                  have g4 : ¬ ((i : Int) < (mid : Int)) := by have := unhide HL1; have := unhide HL2; have := unhide HR1; have := unhide HR2; have := unhide HMD; omega
                  have f5 : decide ((mid : Int) < (eN : Int)) = false := decide_eq_false (by have := unhide HL1; have := unhide HL2; have := unhide HR1; have := unhide HR2; have := unhide HMD; omega)
                  have g5 : ¬ ((mid : Int) < (eN : Int)) := by have := unhide HL1; have := unhide HL2; have := unhide HR1; have := unhide HR2; have := unhide HMD; omega
                  have f6 : decide ((eN : Int) < (r : Int)) = false := decide_eq_false (by have := unhide HL1; have := unhide HL2; have := unhide HR1; have := unhide HR2; have := unhide HMD; omega)
                  have g6 : ¬ ((eN : Int) < (r : Int)) := by have := unhide HL1; have := unhide HL2; have := unhide HR1; have := unhide HR2; have := unhide HMD; omega
                  have e0 : R1 = [] := List.eq_nil_of_length_eq_zero (by omega)
                  have HK1 : Hid (iblk wr D 3 (X ++ (L1 ++ (R1 ++ (L2 ++ (R2 ++ Y)))))) := hide (by have := unhide HK0; rw [e0] at this ⊢; exact this)
                  have HBA := HW
                  clear e0
                  have e1 : R1 = [] := List.eq_nil_of_length_eq_zero (by omega)
                  obtain ⟨M1, hM1⟩ : ∃ M1, M1 = L1 ++ R1 := ⟨_, rfl⟩
                  have HM1 : Hid (M1.Pairwise (ltR rem) ∧ M1.Perm (L1 ++ R1)) := hide (by subst hM1; refine ⟨?_, List.Perm.refl _⟩; rw [e1]; simpa using (unhide SS).1)
                  have HLM : Hid (M1.length = L1.length + R1.length) := hide (by rw [hM1, List.length_append])
                  have HK2 := hide (show iblk _ D 3 (X ++ (M1 ++ (L2 ++ (R2 ++ Y)))) by have := unhide HK1; rw [hM1, List.append_assoc]; exact this)
                  have HBB := HBA
                  clear e1 hM1
                  go_wp2_with fail
                  have e2 : R2 = [] := List.eq_nil_of_length_eq_zero (by omega)
                  exact bodyPost_end (v := .tuple #[]) (by simp [results, Try.results62, go_sem]) rfl ⟨rfl, unhide FIN M1 (L2 ++ R2) (unhide HM1).1 (unhide HM1).2 (by rw [e2]; simpa using (unhide SS).2.2.1) (List.Perm.refl _) _ (by have := unhide HK2; rw [List.append_assoc]; exact this) (unhide HBB)⟩
            · by_cases hx4 : 0 < R2.length
              · try (exfalso; have := unhide HL1; have := unhide HL2; have := unhide HR1; have := unhide HR2; have := unhide HMD; omega)
                all_goals
                  have f1 : decide ((i : Int) < (q : Int)) = false := decide_eq_false (by have := unhide HL1; have := unhide HL2; have := unhide HR1; have := unhide HR2; have := unhide HMD; omega)
                  have g1 : ¬ ((i : Int) < (q : Int)) := by have := unhide HL1; have := unhide HL2; have := unhide HR1; have := unhide HR2; have := unhide HMD; omega
                  have f2 : decide ((q : Int) < (eN : Int)) = false := decide_eq_false (by have := unhide HL1; have := unhide HL2; have := unhide HR1; have := unhide HR2; have := unhide HMD; omega)
                  have g2 : ¬ ((q : Int) < (eN : Int)) := by have := unhide HL1; have := unhide HL2; have := unhide HR1; have := unhide HR2; have := unhide HMD; omega
                  have f3 : decide ((p : Int) < (i : Int)) = false := decide_eq_false (by have := unhide HL1; have := unhide HL2; have := unhide HR1; have := unhide HR2; have := unhide HMD; omega)
                  have g3 : ¬ ((p : Int) < (i : Int)) := by have := unhide HL1; have := unhide HL2; have := unhide HR1; have := unhide HR2; have := unhide HMD; omega
                  have f4 : decide ((i : Int) < (mid : Int)) = false := decide_eq_false (by have := unhide HL1; have := unhide HL2; have := unhide HR1; have := unhide HR2; have := unhide HMD; omega)
                  have g4 : ¬ ((i : Int) < (mid : Int)) := by have := unhide HL1; have := unhide HL2; have := unhide HR1; have := unhide HR2; have := unhide HMD; omega
                  have f5 : decide ((mid : Int) < (eN : Int)) = false := decide_eq_false (by have := unhide HL1; have := unhide HL2; have := unhide HR1; have := unhide HR2; have := unhide HMD; omega)
                  have g5 : ¬ ((mid : Int) < (eN : Int)) := by have := unhide HL1; have := unhide HL2; have := unhide HR1; have := unhide HR2; have := unhide HMD; omega
                  have f6 : decide ((eN : Int) < (r : Int)) = true := decide_eq_true (by have := unhide HL1; have := unhide HL2; have := unhide HR1; have := unhide HR2; have := unhide HMD; omega)
                  have g6 : ((eN : Int) < (r : Int)) := by have := unhide HL1; have := unhide HL2; have := unhide HR1; have := unhide HR2; have := unhide HMD; omega
                  have e0 : R1 = [] := List.eq_nil_of_length_eq_zero (by omega)
                  have HK1 : Hid (iblk wr D 3 (X ++ (L1 ++ (R1 ++ (L2 ++ (R2 ++ Y)))))) := hide (by have := unhide HK0; rw [e0] at this ⊢; exact this)
                  have HBA := HW
                  clear e0
                  have e1 : R1 = [] := List.eq_nil_of_length_eq_zero (by omega)
                  obtain ⟨M1, hM1⟩ : ∃ M1, M1 = L1 ++ R1 := ⟨_, rfl⟩
                  have HM1 : Hid (M1.Pairwise (ltR rem) ∧ M1.Perm (L1 ++ R1)) := hide (by subst hM1; refine ⟨?_, List.Perm.refl _⟩; rw [e1]; simpa using (unhide SS).1)
                  have HLM : Hid (M1.length = L1.length + R1.length) := hide (by rw [hM1, List.length_append])
                  have HK2 := hide (show iblk _ D 3 (X ++ (M1 ++ (L2 ++ (R2 ++ Y)))) by have := unhide HK1; rw [hM1, List.append_assoc]; exact this)
                  have HBB := HBA
                  clear e1 hM1
                  go_wp2_with fail
                  have e2 : L2 = [] := List.eq_nil_of_length_eq_zero (by omega)
                  exact bodyPost_end (v := .tuple #[]) (by simp [results, Try.results62, go_sem]) rfl ⟨rfl, unhide FIN M1 (L2 ++ R2) (unhide HM1).1 (unhide HM1).2 (by rw [e2]; simpa using (unhide SS).2.2.2) (List.Perm.refl _) _ (by have := unhide HK2; rw [List.append_assoc]; exact this) (unhide HBB)⟩
              · try (exfalso; have := unhide HL1; have := unhide HL2; have := unhide HR1; have := unhide HR2; have := unhide HMD; omega)
                all_goals
                  have f1 : decide ((i : Int) < (q : Int)) = false := decide_eq_false (by have := unhide HL1; have := unhide HL2; have := unhide HR1; have := unhide HR2; have := unhide HMD; omega)
                  have g1 : ¬ ((i : Int) < (q : Int)) := by have := unhide HL1; have := unhide HL2; have := unhide HR1; have := unhide HR2; have := unhide HMD; omega
                  have f2 : decide ((q : Int) < (eN : Int)) = false := decide_eq_false (by have := unhide HL1; have := unhide HL2; have := unhide HR1; have := unhide HR2; have := unhide HMD; omega)
                  have g2 : ¬ ((q : Int) < (eN : Int)) := by have := unhide HL1; have := unhide HL2; have := unhide HR1; have := unhide HR2; have := unhide HMD; omega
                  have f3 : decide ((p : Int) < (i : Int)) = false := decide_eq_false (by have := unhide HL1; have := unhide HL2; have := unhide HR1; have := unhide HR2; have := unhide HMD; omega)
                  have g3 : ¬ ((p : Int) < (i : Int)) := by have := unhide HL1; have := unhide HL2; have := unhide HR1; have := unhide HR2; have := unhide HMD; omega
                  have f4 : decide ((i : Int) < (mid : Int)) = false := decide_eq_false (by have := unhide HL1; have := unhide HL2; have := unhide HR1; have := unhide HR2; have := unhide HMD; omega)
                  have g4 : ¬ ((i : Int) < (mid : Int)) := by have := unhide HL1; have := unhide HL2; have := unhide HR1; have := unhide HR2; have := unhide HMD; omega
                  have f5 : decide ((mid : Int) < (eN : Int)) = false := decide_eq_false (by have := unhide HL1; have := unhide HL2; have := unhide HR1; have := unhide HR2; have := unhide HMD; omega)
                  have g5 : ¬ ((mid : Int) < (eN : Int)) := by have := unhide HL1; have := unhide HL2; have := unhide HR1; have := unhide HR2; have := unhide HMD; omega
                  have f6 : decide ((eN : Int) < (r : Int)) = false := decide_eq_false (by have := unhide HL1; have := unhide HL2; have := unhide HR1; have := unhide HR2; have := unhide HMD; omega)
                  have g6 : ¬ ((eN : Int) < (r : Int)) := by have := unhide HL1; have := unhide HL2; have := unhide HR1; have := unhide HR2; have := unhide HMD; omega
                  have e0 : R1 = [] := List.eq_nil_of_length_eq_zero (by omega)
                  have HK1 : Hid (iblk wr D 3 (X ++ (L1 ++ (R1 ++ (L2 ++ (R2 ++ Y)))))) := hide (by have := unhide HK0; rw [e0] at this ⊢; exact this)
                  have HBA := HW
                  clear e0
                  have e1 : R1 = [] := List.eq_nil_of_length_eq_zero (by omega)
                  obtain ⟨M1, hM1⟩ : ∃ M1, M1 = L1 ++ R1 := ⟨_, rfl⟩
                  have HM1 : Hid (M1.Pairwise (ltR rem) ∧ M1.Perm (L1 ++ R1)) := hide (by subst hM1; refine ⟨?_, List.Perm.refl _⟩; rw [e1]; simpa using (unhide SS).1)
                  have HLM : Hid (M1.length = L1.length + R1.length) := hide (by rw [hM1, List.length_append])
                  have HK2 := hide (show iblk _ D 3 (X ++ (M1 ++ (L2 ++ (R2 ++ Y)))) by have := unhide HK1; rw [hM1, List.append_assoc]; exact this)
                  have HBB := HBA
                  clear e1 hM1
                  go_wp2_with fail
                  have e2 : R2 = [] := List.eq_nil_of_length_eq_zero (by omega)
                  exact bodyPost_end (v := .tuple #[]) (by simp [results, Try.results62, go_sem]) rfl ⟨rfl, unhide FIN M1 (L2 ++ R2) (unhide HM1).1 (unhide HM1).2 (by rw [e2]; simpa using (unhide SS).2.2.1) (List.Perm.refl _) _ (by have := unhide HK2; rw [List.append_assoc]; exact this) (unhide HBB)⟩
  · have d0 : decide ((mid : Int) < (q : Int)) = false := decide_eq_false (by omega)
    go_enter Try.func62, Try.ntmps62
    go_wp2_with fail
    go_loopw [20, 21] (fun z y W => ∃ (i j : Nat), z = .int .i64 (i : Int) ∧ y = .int .i64 (j : Int) ∧ p ≤ i ∧ i ≤ j ∧ j ≤ q ∧ (i = p ∨ ∀ x y, S1[i - 1 - p]? = some x → S2[mid - i]? = some y → ltR rem x y) ∧ (j = q ∨ ∀ x y, S2[mid - 1 - j]? = some x → S1[j - p]? = some y → ltR rem x y) ∧ iblk W D 3 (X ++ (S1 ++ (S2 ++ Y))) ∧ But D w W) (fun z y _ => (intOf y).toNat - (intOf z).toNat)
    case atStart => exact ⟨p, q, by first | rfl | simp, rfl, Nat.le_refl _, by omega, Nat.le_refl _, .inl rfl, .inl rfl, unhide HI, But.refl _ _⟩
    case round =>
      obtain ⟨i, j, rfl, rfl, hi1, hij, hj2, hA, hB, hk, hw⟩ := hrel
      have HA := hide hA
      have HB := hide hB
      have HW := hide hw
      have HK := hide hk
      have hsq := unhide HQ
      have hsr := unhide HR
      clear hw hk hA hB HI
      by_cases h : i < j
      · have d1 : decide ((i : Int) < (j : Int)) = true := decide_eq_true (by omega)
        obtain ⟨cN, ec⟩ : ∃ cN : Nat, ((i : Int) + (j : Int)) / 2 = (cN : Int) := ⟨(i + j) / 2, by omega⟩
        have n1 : i ≤ cN := by omega
        have n2 : cN < j := by omega
        obtain ⟨uN, eu⟩ : ∃ uN : Nat, uN + 1 + cN = mid + q := ⟨mid + q - 1 - cN, by omega⟩
        have wu : IntKind.i64.wrap ((mid : Int) + (q : Int) - 1 - (cN : Int)) = (uN : Int) := by rw [show (mid : Int) + (q : Int) - 1 - (cN : Int) = (uN : Int) by omega, IntKind.wrap_i64]; omega
        have n3 : (cN : Int) < (m : Int) := by omega
        have n4 : (0 : Int) ≤ (cN : Int) := Int.natCast_nonneg _
        have n5 : (uN : Int) < (m : Int) := by omega
        have n6 : (0 : Int) ≤ (uN : Int) := Int.natCast_nonneg _
        obtain ⟨x, hx⟩ : ∃ x, S1[cN - p]? = some x := ⟨_, List.getElem?_eq_getElem (by omega)⟩
        obtain ⟨y, hy⟩ : ∃ y, S2[mid - 1 - cN]? = some y := ⟨_, List.getElem?_eq_getElem (by omega)⟩
        have c0 := row_left X S1 (S2 ++ Y) (cN - p) x hx
        have c1 := row_right X S1 S2 Y (mid - 1 - cN) y hy
        rw [unhide HP] at c0 c1
        rw [show p + (cN - p) = cN by omega] at c0
        rw [hsq, show q + (mid - 1 - cN) = uN by omega] at c1
        have k0 := (unhide HK).cell c0
        have k1 := (unhide HK).cell c1
        have hxy := (unhide HT).lt x (List.mem_of_getElem? hx) y (List.mem_of_getElem? hy)
        have HOX := hide ((unhide HT).o1 x (List.mem_of_getElem? hx))
        have HOY := hide ((unhide HT).o2 y (List.mem_of_getElem? hy))
        have HXY := hide hxy
        have HX := hide hx
        have HY := hide hy
        have EU := hide eu
        clear c0 c1 hxy hx hy eu hsq hsr
        by_cases hc : cmR rem y x < 0
        · have hcd : decide (cmR rem y x < 0) = true := decide_eq_true hc
          have HLT := hide ((cmR_late (unhide HXY)).1 hc)
          go_wp2_with fail
          go_region_held3 (fun wx => wx.cell? ⟨D, uN, none⟩ = some (.int .i64 y) ∧ wx.cell? ⟨D, cN, none⟩ = some (.int .i64 x))
            (simp (maxDischargeDepth := 12) [go_sem, le1, lt1, *])
            (first
            | (go_at_call 44; refine ((unhide HH).ans _ y x ((unhide HH).keep w _ (unhide HE) (by repeat (first | exact unhide HW | refine But.drew ?_))) (unhide HOY) (unhide HOX)).mono ?_; rintro e' w' ⟨rfl, hs⟩; have hsc := hs.cell; have HSM := hide hs; clear hs))
          all_goals
            go_wp2_with fail
            go_roundw
            case rel => exact ⟨i, cN, rfl, rfl, hi1, n1, by omega, unhide HA, .inr (fun x' y' hx' hy' => by rw [unhide HY] at hx'; rw [unhide HX] at hy'; cases hx'; cases hy'; exact unhide HLT), by repeat (first | exact unhide HK | refine Same.iblk (unhide HSM) ?_), by repeat (first | exact unhide HW | refine But.sm ?_ (unhide HSM) | refine But.drew ?_)⟩
            case measure => simp only [intOf]; omega
        · have hcd : decide (cmR rem y x < 0) = false := decide_eq_false hc
          have HLT := hide ((cmR_late' (unhide HXY)).1 hc)
          go_wp2_with fail
          go_region_held3 (fun wx => wx.cell? ⟨D, uN, none⟩ = some (.int .i64 y) ∧ wx.cell? ⟨D, cN, none⟩ = some (.int .i64 x))
            (simp (maxDischargeDepth := 12) [go_sem, le1, lt1, *])
            (first
            | (go_at_call 44; refine ((unhide HH).ans _ y x ((unhide HH).keep w _ (unhide HE) (by repeat (first | exact unhide HW | refine But.drew ?_))) (unhide HOY) (unhide HOX)).mono ?_; rintro e' w' ⟨rfl, hs⟩; have hsc := hs.cell; have HSM := hide hs; clear hs))
          all_goals
            go_wp2_with fail
            go_roundw
            case rel => exact ⟨cN + 1, j, by simp, rfl, by omega, by omega, hj2, .inr (fun x' y' hx' hy' => by rw [show cN + 1 - 1 - p = cN - p by omega, unhide HX] at hx'; rw [show mid - (cN + 1) = mid - 1 - cN by omega, unhide HY] at hy'; cases hx'; cases hy'; exact unhide HLT), unhide HB, by repeat (first | exact unhide HK | refine Same.iblk (unhide HSM) ?_), by repeat (first | exact unhide HW | refine But.sm ?_ (unhide HSM) | refine But.drew ?_)⟩
            case measure => simp only [intOf]; omega
      · have d1 : decide ((i : Int) < (j : Int)) = false := decide_eq_false (by omega)
        have eij : i = j := by omega
        subst eij
        obtain ⟨eN, ee⟩ : ∃ eN : Nat, eN + i = mid + q := ⟨mid + q - i, by omega⟩
        have we : IntKind.i64.wrap ((mid : Int) + (q : Int) - (i : Int)) = (eN : Int) := by rw [show (mid : Int) + (q : Int) - (i : Int) = (eN : Int) by omega, IntKind.wrap_i64]; omega
        have ue : (mid : Int) + (q : Int) - (i : Int) = (eN : Int) := by omega
        obtain ⟨L1, L2, R1, R2, hS1, hS2, hl1, hl2, hr1, hr2, hbord⟩ : ∃ L1 L2 R1 R2 : List Int, S1 = L1 ++ L2 ∧ S2 = R1 ++ R2 ∧ p + L1.length = i ∧ i + L2.length = q ∧ q + R1.length = eN ∧ eN + R2.length = r ∧ (∀ x ∈ L1 ++ R1, ∀ y ∈ L2 ++ R2, ltR rem x y) := by
          refine ⟨S1.take (i - p), S1.drop (i - p), S2.take (mid - i), S2.drop (mid - i), (List.take_append_drop _ _).symm, (List.take_append_drop _ _).symm, ?_, ?_, ?_, ?_, ?_⟩
          · rw [List.length_take]; omega
          · rw [List.length_drop]; omega
          · rw [List.length_take]; omega
          · rw [List.length_drop]; omega
          · have hB := border_of (rem := rem) (S1 := S1) (S2 := S2) (l := i - p) (r := mid - i) (by omega) (by omega) (by
              rcases unhide HA with h | h
              · first | (left; omega) | (right; left; omega)
              · right; right; rw [show i - p - 1 = i - 1 - p by omega]; exact h) (by
              rcases unhide HB with h | h
              · first | (left; omega) | (right; left; omega)
              · right; right; rw [show mid - i - 1 = mid - 1 - i by omega]; exact h)
            exact sym_border (by rw [List.take_append_drop]; exact (unhide HT).s1) (by rw [List.take_append_drop]; exact (unhide HT).s2) hB.1 hB.2
        subst hS1
        subst hS2
        obtain ⟨tw1, tw2⟩ := (unhide HT).parts
        have hpx := unhide HP
        have hrl : X.length + L1.length + L2.length + R1.length + R2.length + Y.length = m := by have := unhide HLEN; simp only [List.length_append] at this; omega
        have hK0 : iblk wr D 3 (X ++ (L1 ++ (L2 ++ (R1 ++ (R2 ++ Y))))) := by have := unhide HK; simpa only [List.append_assoc] using this
        have hrot : 0 < L2.length → 0 < R1.length → ∀ W, iblk W D 3 (X ++ (L1 ++ (L2 ++ (R1 ++ (R2 ++ Y))))) → Calls Try.prog 68 #[.slice (some ⟨D, 0, none⟩) m m, .int .i64 (i : Int), .int .i64 (q : Int), .int .i64 (eN : Int), .func (.func 44) #[] #[c]] W fun e w' => e = .returned (.tuple #[]) ∧ iblk w' D 3 (X ++ (L1 ++ (R1 ++ (L2 ++ (R2 ++ Y))))) ∧ But D W w' := by
          intro g1 g2 W hW
          have h := rot_any D m (.func (.func 44) #[] #[c]) (X ++ L1) L2 R1 (R2 ++ Y) W hm (by simp only [List.length_append]; omega) g1 g2 (by rw [List.append_assoc]; exact hW)
          rw [show (X ++ L1).length = i by rw [List.length_append]; omega, hl2, hr1, List.append_assoc] at h
          exact h
        have hrec1 : 0 < L1.length → 0 < R1.length → ∀ W, Env W → iblk W D 3 (X ++ (L1 ++ (R1 ++ (L2 ++ (R2 ++ Y))))) → Calls Try.prog 62 #[.slice (some ⟨D, 0, none⟩) m m, .int .i64 (p : Int), .int .i64 (i : Int), .int .i64 (mid : Int), .func (.func 44) #[] #[c]] W fun e w' => e = .returned (.tuple #[]) ∧ Merged rem D X L1 R1 (L2 ++ (R2 ++ Y)) W w' := by
          intro g1 g2 W hE hW
          have h := unhide HREC X L1 R1 (L2 ++ (R2 ++ Y)) W (by simp only [List.length_append]; omega) (by simp only [List.length_append]; omega) g1 g2 tw1 hE hW
          rw [hpx, hl1, show i + R1.length = mid by omega] at h
          exact h
        have hrec2 : 0 < L2.length → 0 < R2.length → ∀ M1 : List Int, M1.length = L1.length + R1.length → ∀ W, Env W → iblk W D 3 (X ++ (M1 ++ (L2 ++ (R2 ++ Y)))) → Calls Try.prog 62 #[.slice (some ⟨D, 0, none⟩) m m, .int .i64 (mid : Int), .int .i64 (eN : Int), .int .i64 (r : Int), .func (.func 44) #[] #[c]] W fun e w' => e = .returned (.tuple #[]) ∧ Merged rem D (X ++ M1) L2 R2 Y W w' := by
          intro g1 g2 M1 hM W hE hW
          have h := unhide HREC (X ++ M1) L2 R2 Y W (by simp only [List.length_append]; omega) (by simp only [List.length_append]; omega) g1 g2 tw2 hE (by rw [List.append_assoc]; exact hW)
          rw [show (X ++ M1).length = mid by rw [List.length_append]; omega, show mid + L2.length = eN by omega, hr2] at h
          exact h
        have fin : ∀ M1 M2 : List Int, M1.Pairwise (ltR rem) → M1.Perm (L1 ++ R1) → M2.Pairwise (ltR rem) → M2.Perm (L2 ++ R2) → ∀ W, iblk W D 3 (X ++ (M1 ++ (M2 ++ Y))) → But D w W → Merged rem D X (L1 ++ L2) (R1 ++ R2) Y w W := by
          intro M1 M2 s1 p1 s2 p2 W hW hB
          obtain ⟨h1, h2⟩ := sym_join s1 p1 s2 p2 hbord
          exact ⟨M1 ++ M2, h1, h2, by rw [List.append_assoc]; exact hW, hB⟩
        have s11 := tw1.s1
        have s12 := tw1.s2
        have s21 := tw2.s1
        have s22 := tw2.s2
        have HROT := hide hrot
        have HREC1 := hide hrec1
        have HREC2 := hide hrec2
        have FIN := hide fin
        have HK0 := hide hK0
        have SS := hide (And.intro s11 (And.intro s12 (And.intro s21 s22)))
        have HL1 := hide hl1
        have HL2 := hide hl2
        have HR1 := hide hr1
        have HR2 := hide hr2
        have HMD : Hid (i + R1.length = mid) := hide (by omega)
        clear hrot hrec1 hrec2 fin hK0 s11 s12 s21 s22 hbord tw1 tw2 hpx hrl HREC HT HA HB HK HLEN hl1 hl2 hr1 hr2 hsq hsr
        by_cases hx2 : 0 < L2.length
        · by_cases hx1 : 0 < R1.length
          · by_cases hx3 : 0 < L1.length
            · by_cases hx4 : 0 < R2.length
              · try (exfalso; have := unhide HL1; have := unhide HL2; have := unhide HR1; have := unhide HR2; have := unhide HMD; omega)
                all_goals
                  have f1 : decide ((i : Int) < (q : Int)) = true := decide_eq_true (by have := unhide HL1; have := unhide HL2; have := unhide HR1; have := unhide HR2; have := unhide HMD; omega)
                  have g1 : ((i : Int) < (q : Int)) := by have := unhide HL1; have := unhide HL2; have := unhide HR1; have := unhide HR2; have := unhide HMD; omega
                  have f2 : decide ((q : Int) < (eN : Int)) = true := decide_eq_true (by have := unhide HL1; have := unhide HL2; have := unhide HR1; have := unhide HR2; have := unhide HMD; omega)
                  have g2 : ((q : Int) < (eN : Int)) := by have := unhide HL1; have := unhide HL2; have := unhide HR1; have := unhide HR2; have := unhide HMD; omega
                  have f3 : decide ((p : Int) < (i : Int)) = true := decide_eq_true (by have := unhide HL1; have := unhide HL2; have := unhide HR1; have := unhide HR2; have := unhide HMD; omega)
                  have g3 : ((p : Int) < (i : Int)) := by have := unhide HL1; have := unhide HL2; have := unhide HR1; have := unhide HR2; have := unhide HMD; omega
                  have f4 : decide ((i : Int) < (mid : Int)) = true := decide_eq_true (by have := unhide HL1; have := unhide HL2; have := unhide HR1; have := unhide HR2; have := unhide HMD; omega)
                  have g4 : ((i : Int) < (mid : Int)) := by have := unhide HL1; have := unhide HL2; have := unhide HR1; have := unhide HR2; have := unhide HMD; omega
                  have f5 : decide ((mid : Int) < (eN : Int)) = true := decide_eq_true (by have := unhide HL1; have := unhide HL2; have := unhide HR1; have := unhide HR2; have := unhide HMD; omega)
                  have g5 : ((mid : Int) < (eN : Int)) := by have := unhide HL1; have := unhide HL2; have := unhide HR1; have := unhide HR2; have := unhide HMD; omega
                  have f6 : decide ((eN : Int) < (r : Int)) = true := decide_eq_true (by have := unhide HL1; have := unhide HL2; have := unhide HR1; have := unhide HR2; have := unhide HMD; omega)
                  have g6 : ((eN : Int) < (r : Int)) := by have := unhide HL1; have := unhide HL2; have := unhide HR1; have := unhide HR2; have := unhide HMD; omega
                  go_wp2_with fail
                  refine (unhide HROT hx2 hx1 _ (unhide HK0)).mono ?_
                  rintro e WA ⟨rfl, hk1, hb1⟩
                  have HK1 := hide hk1
                  have HBA := hide ((unhide HW).trans hb1)
                  clear hk1 hb1
                  go_wp2_with fail
                  refine (unhide HREC1 hx3 hx1 _ ((unhide HH).keep w _ (unhide HE) (unhide HBA)) (unhide HK1)).mono ?_
                  rintro e WB ⟨rfl, M1, sm1, pm1, hk1, hb1⟩
                  have HK2 := hide hk1
                  have HBB := hide ((unhide HBA).trans hb1)
                  have HM1 := hide (And.intro sm1 pm1)
                  have hm1 : M1.length = L1.length + R1.length := by rw [pm1.length_eq, List.length_append]
                  have HLM := hide hm1
                  clear hk1 hb1 sm1 pm1 hm1
                  go_wp2_with fail
                  refine (unhide HREC2 hx2 hx4 M1 (unhide HLM) _ ((unhide HH).keep w _ (unhide HE) (unhide HBB)) (unhide HK2)).mono ?_
                  rintro e WC ⟨rfl, M2, sm2, pm2, hk1, hb1⟩
                  have HK3 := hide hk1
                  have HBC := hide ((unhide HBB).trans hb1)
                  have HM2 := hide (And.intro sm2 pm2)
                  clear hk1 hb1 sm2 pm2
                  go_wp2_with fail
                  exact bodyPost_end (v := .tuple #[]) (by simp [results, Try.results62, go_sem]) rfl ⟨rfl, unhide FIN M1 M2 (unhide HM1).1 (unhide HM1).2 (unhide HM2).1 (unhide HM2).2 _ (by have := unhide HK3; rwa [List.append_assoc] at this) (unhide HBC)⟩
              · try (exfalso; have := unhide HL1; have := unhide HL2; have := unhide HR1; have := unhide HR2; have := unhide HMD; omega)
                all_goals
                  have f1 : decide ((i : Int) < (q : Int)) = true := decide_eq_true (by have := unhide HL1; have := unhide HL2; have := unhide HR1; have := unhide HR2; have := unhide HMD; omega)
                  have g1 : ((i : Int) < (q : Int)) := by have := unhide HL1; have := unhide HL2; have := unhide HR1; have := unhide HR2; have := unhide HMD; omega
                  have f2 : decide ((q : Int) < (eN : Int)) = true := decide_eq_true (by have := unhide HL1; have := unhide HL2; have := unhide HR1; have := unhide HR2; have := unhide HMD; omega)
                  have g2 : ((q : Int) < (eN : Int)) := by have := unhide HL1; have := unhide HL2; have := unhide HR1; have := unhide HR2; have := unhide HMD; omega
                  have f3 : decide ((p : Int) < (i : Int)) = true := decide_eq_true (by have := unhide HL1; have := unhide HL2; have := unhide HR1; have := unhide HR2; have := unhide HMD; omega)
                  have g3 : ((p : Int) < (i : Int)) := by have := unhide HL1; have := unhide HL2; have := unhide HR1; have := unhide HR2; have := unhide HMD; omega
                  have f4 : decide ((i : Int) < (mid : Int)) = true := decide_eq_true (by have := unhide HL1; have := unhide HL2; have := unhide HR1; have := unhide HR2; have := unhide HMD; omega)
                  have g4 : ((i : Int) < (mid : Int)) := by have := unhide HL1; have := unhide HL2; have := unhide HR1; have := unhide HR2; have := unhide HMD; omega
                  have f5 : decide ((mid : Int) < (eN : Int)) = true := decide_eq_true (by have := unhide HL1; have := unhide HL2; have := unhide HR1; have := unhide HR2; have := unhide HMD; omega)
                  have g5 : ((mid : Int) < (eN : Int)) := by have := unhide HL1; have := unhide HL2; have := unhide HR1; have := unhide HR2; have := unhide HMD; omega
                  have f6 : decide ((eN : Int) < (r : Int)) = false := decide_eq_false (by have := unhide HL1; have := unhide HL2; have := unhide HR1; have := unhide HR2; have := unhide HMD; omega)
                  have g6 : ¬ ((eN : Int) < (r : Int)) := by have := unhide HL1; have := unhide HL2; have := unhide HR1; have := unhide HR2; have := unhide HMD; omega
                  go_wp2_with fail
                  refine (unhide HROT hx2 hx1 _ (unhide HK0)).mono ?_
                  rintro e WA ⟨rfl, hk1, hb1⟩
                  have HK1 := hide hk1
                  have HBA := hide ((unhide HW).trans hb1)
                  clear hk1 hb1
                  go_wp2_with fail
                  refine (unhide HREC1 hx3 hx1 _ ((unhide HH).keep w _ (unhide HE) (unhide HBA)) (unhide HK1)).mono ?_
                  rintro e WB ⟨rfl, M1, sm1, pm1, hk1, hb1⟩
                  have HK2 := hide hk1
                  have HBB := hide ((unhide HBA).trans hb1)
                  have HM1 := hide (And.intro sm1 pm1)
                  have hm1 : M1.length = L1.length + R1.length := by rw [pm1.length_eq, List.length_append]
                  have HLM := hide hm1
                  clear hk1 hb1 sm1 pm1 hm1
                  go_wp2_with fail
                  have e2 : R2 = [] := List.eq_nil_of_length_eq_zero (by omega)
                  exact bodyPost_end (v := .tuple #[]) (by simp [results, Try.results62, go_sem]) rfl ⟨rfl, unhide FIN M1 (L2 ++ R2) (unhide HM1).1 (unhide HM1).2 (by rw [e2]; simpa using (unhide SS).2.2.1) (List.Perm.refl _) _ (by have := unhide HK2; rw [List.append_assoc]; exact this) (unhide HBB)⟩
            · by_cases hx4 : 0 < R2.length
              · try (exfalso; have := unhide HL1; have := unhide HL2; have := unhide HR1; have := unhide HR2; have := unhide HMD; omega)
                all_goals
                  have f1 : decide ((i : Int) < (q : Int)) = true := decide_eq_true (by have := unhide HL1; have := unhide HL2; have := unhide HR1; have := unhide HR2; have := unhide HMD; omega)
                  have g1 : ((i : Int) < (q : Int)) := by have := unhide HL1; have := unhide HL2; have := unhide HR1; have := unhide HR2; have := unhide HMD; omega
                  have f2 : decide ((q : Int) < (eN : Int)) = true := decide_eq_true (by have := unhide HL1; have := unhide HL2; have := unhide HR1; have := unhide HR2; have := unhide HMD; omega)
                  have g2 : ((q : Int) < (eN : Int)) := by have := unhide HL1; have := unhide HL2; have := unhide HR1; have := unhide HR2; have := unhide HMD; omega
                  have f3 : decide ((p : Int) < (i : Int)) = false := decide_eq_false (by have := unhide HL1; have := unhide HL2; have := unhide HR1; have := unhide HR2; have := unhide HMD; omega)
                  have g3 : ¬ ((p : Int) < (i : Int)) := by have := unhide HL1; have := unhide HL2; have := unhide HR1; have := unhide HR2; have := unhide HMD; omega
                  have f4 : decide ((i : Int) < (mid : Int)) = true := decide_eq_true (by have := unhide HL1; have := unhide HL2; have := unhide HR1; have := unhide HR2; have := unhide HMD; omega)
                  have g4 : ((i : Int) < (mid : Int)) := by have := unhide HL1; have := unhide HL2; have := unhide HR1; have := unhide HR2; have := unhide HMD; omega
                  have f5 : decide ((mid : Int) < (eN : Int)) = true := decide_eq_true (by have := unhide HL1; have := unhide HL2; have := unhide HR1; have := unhide HR2; have := unhide HMD; omega)
                  have g5 : ((mid : Int) < (eN : Int)) := by have := unhide HL1; have := unhide HL2; have := unhide HR1; have := unhide HR2; have := unhide HMD; omega
                  have f6 : decide ((eN : Int) < (r : Int)) = true := decide_eq_true (by have := unhide HL1; have := unhide HL2; have := unhide HR1; have := unhide HR2; have := unhide HMD; omega)
                  have g6 : ((eN : Int) < (r : Int)) := by have := unhide HL1; have := unhide HL2; have := unhide HR1; have := unhide HR2; have := unhide HMD; omega
                  go_wp2_with fail
                  refine (unhide HROT hx2 hx1 _ (unhide HK0)).mono ?_
                  rintro e WA ⟨rfl, hk1, hb1⟩
                  have HK1 := hide hk1
                  have HBA := hide ((unhide HW).trans hb1)
                  clear hk1 hb1
                  have e1 : L1 = [] := List.eq_nil_of_length_eq_zero (by omega)
                  obtain ⟨M1, hM1⟩ : ∃ M1, M1 = L1 ++ R1 := ⟨_, rfl⟩
                  have HM1 : Hid (M1.Pairwise (ltR rem) ∧ M1.Perm (L1 ++ R1)) := hide (by subst hM1; refine ⟨?_, List.Perm.refl _⟩; rw [e1]; simpa using (unhide SS).2.1)
                  have HLM : Hid (M1.length = L1.length + R1.length) := hide (by rw [hM1, List.length_append])
                  have HK2 := hide (show iblk _ D 3 (X ++ (M1 ++ (L2 ++ (R2 ++ Y)))) by have := unhide HK1; rw [hM1, List.append_assoc]; exact this)
                  have HBB := HBA
                  clear e1 hM1
                  go_wp2_with fail
                  refine (unhide HREC2 hx2 hx4 M1 (unhide HLM) _ ((unhide HH).keep w _ (unhide HE) (unhide HBB)) (unhide HK2)).mono ?_
                  rintro e WC ⟨rfl, M2, sm2, pm2, hk1, hb1⟩
                  have HK3 := hide hk1
                  have HBC := hide ((unhide HBB).trans hb1)
                  have HM2 := hide (And.intro sm2 pm2)
                  clear hk1 hb1 sm2 pm2
                  go_wp2_with fail
                  exact bodyPost_end (v := .tuple #[]) (by simp [results, Try.results62, go_sem]) rfl ⟨rfl, unhide FIN M1 M2 (unhide HM1).1 (unhide HM1).2 (unhide HM2).1 (unhide HM2).2 _ (by have := unhide HK3; rwa [List.append_assoc] at this) (unhide HBC)⟩
              · try (exfalso; have := unhide HL1; have := unhide HL2; have := unhide HR1; have := unhide HR2; have := unhide HMD; omega)
                all_goals
                  have f1 : decide ((i : Int) < (q : Int)) = true := decide_eq_true (by have := unhide HL1; have := unhide HL2; have := unhide HR1; have := unhide HR2; have := unhide HMD; omega)
                  have g1 : ((i : Int) < (q : Int)) := by have := unhide HL1; have := unhide HL2; have := unhide HR1; have := unhide HR2; have := unhide HMD; omega
                  have f2 : decide ((q : Int) < (eN : Int)) = true := decide_eq_true (by have := unhide HL1; have := unhide HL2; have := unhide HR1; have := unhide HR2; have := unhide HMD; omega)
                  have g2 : ((q : Int) < (eN : Int)) := by have := unhide HL1; have := unhide HL2; have := unhide HR1; have := unhide HR2; have := unhide HMD; omega
                  have f3 : decide ((p : Int) < (i : Int)) = false := decide_eq_false (by have := unhide HL1; have := unhide HL2; have := unhide HR1; have := unhide HR2; have := unhide HMD; omega)
                  have g3 : ¬ ((p : Int) < (i : Int)) := by have := unhide HL1; have := unhide HL2; have := unhide HR1; have := unhide HR2; have := unhide HMD; omega
                  have f4 : decide ((i : Int) < (mid : Int)) = true := decide_eq_true (by have := unhide HL1; have := unhide HL2; have := unhide HR1; have := unhide HR2; have := unhide HMD; omega)
                  have g4 : ((i : Int) < (mid : Int)) := by have := unhide HL1; have := unhide HL2; have := unhide HR1; have := unhide HR2; have := unhide HMD; omega
                  have f5 : decide ((mid : Int) < (eN : Int)) = true := decide_eq_true (by have := unhide HL1; have := unhide HL2; have := unhide HR1; have := unhide HR2; have := unhide HMD; omega)
                  have g5 : ((mid : Int) < (eN : Int)) := by have := unhide HL1; have := unhide HL2; have := unhide HR1; have := unhide HR2; have := unhide HMD; omega
                  have f6 : decide ((eN : Int) < (r : Int)) = false := decide_eq_false (by have := unhide HL1; have := unhide HL2; have := unhide HR1; have := unhide HR2; have := unhide HMD; omega)
                  have g6 : ¬ ((eN : Int) < (r : Int)) := by have := unhide HL1; have := unhide HL2; have := unhide HR1; have := unhide HR2; have := unhide HMD; omega
                  go_wp2_with fail
                  refine (unhide HROT hx2 hx1 _ (unhide HK0)).mono ?_
                  rintro e WA ⟨rfl, hk1, hb1⟩
                  have HK1 := hide hk1
                  have HBA := hide ((unhide HW).trans hb1)
                  clear hk1 hb1
                  have e1 : L1 = [] := List.eq_nil_of_length_eq_zero (by omega)
                  obtain ⟨M1, hM1⟩ : ∃ M1, M1 = L1 ++ R1 := ⟨_, rfl⟩
                  have HM1 : Hid (M1.Pairwise (ltR rem) ∧ M1.Perm (L1 ++ R1)) := hide (by subst hM1; refine ⟨?_, List.Perm.refl _⟩; rw [e1]; simpa using (unhide SS).2.1)
                  have HLM : Hid (M1.length = L1.length + R1.length) := hide (by rw [hM1, List.length_append])
                  have HK2 := hide (show iblk _ D 3 (X ++ (M1 ++ (L2 ++ (R2 ++ Y)))) by have := unhide HK1; rw [hM1, List.append_assoc]; exact this)
                  have HBB := HBA
                  clear e1 hM1
                  go_wp2_with fail
                  have e2 : R2 = [] := List.eq_nil_of_length_eq_zero (by omega)
                  exact bodyPost_end (v := .tuple #[]) (by simp [results, Try.results62, go_sem]) rfl ⟨rfl, unhide FIN M1 (L2 ++ R2) (unhide HM1).1 (unhide HM1).2 (by rw [e2]; simpa using (unhide SS).2.2.1) (List.Perm.refl _) _ (by have := unhide HK2; rw [List.append_assoc]; exact this) (unhide HBB)⟩
          · by_cases hx3 : 0 < L1.length
            · by_cases hx4 : 0 < R2.length
              · try (exfalso; have := unhide HL1; have := unhide HL2; have := unhide HR1; have := unhide HR2; have := unhide HMD; omega)
                all_goals
                  have f1 : decide ((i : Int) < (q : Int)) = true := decide_eq_true (by have := unhide HL1; have := unhide HL2; have := unhide HR1; have := unhide HR2; have := unhide HMD; omega)
                  have g1 : ((i : Int) < (q : Int)) := by have := unhide HL1; have := unhide HL2; have := unhide HR1; have := unhide HR2; have := unhide HMD; omega
                  have f2 : decide ((q : Int) < (eN : Int)) = false := decide_eq_false (by have := unhide HL1; have := unhide HL2; have := unhide HR1; have := unhide HR2; have := unhide HMD; omega)
                  have g2 : ¬ ((q : Int) < (eN : Int)) := by have := unhide HL1; have := unhide HL2; have := unhide HR1; have := unhide HR2; have := unhide HMD; omega
                  have f3 : decide ((p : Int) < (i : Int)) = true := decide_eq_true (by have := unhide HL1; have := unhide HL2; have := unhide HR1; have := unhide HR2; have := unhide HMD; omega)
                  have g3 : ((p : Int) < (i : Int)) := by have := unhide HL1; have := unhide HL2; have := unhide HR1; have := unhide HR2; have := unhide HMD; omega
                  have f4 : decide ((i : Int) < (mid : Int)) = false := decide_eq_false (by have := unhide HL1; have := unhide HL2; have := unhide HR1; have := unhide HR2; have := unhide HMD; omega)
                  have g4 : ¬ ((i : Int) < (mid : Int)) := by have := unhide HL1; have := unhide HL2; have := unhide HR1; have := unhide HR2; have := unhide HMD; omega
                  have f5 : decide ((mid : Int) < (eN : Int)) = true := decide_eq_true (by have := unhide HL1; have := unhide HL2; have := unhide HR1; have := unhide HR2; have := unhide HMD; omega)
                  have g5 : ((mid : Int) < (eN : Int)) := by have := unhide HL1; have := unhide HL2; have := unhide HR1; have := unhide HR2; have := unhide HMD; omega
                  have f6 : decide ((eN : Int) < (r : Int)) = true := decide_eq_true (by have := unhide HL1; have := unhide HL2; have := unhide HR1; have := unhide HR2; have := unhide HMD; omega)
                  have g6 : ((eN : Int) < (r : Int)) := by have := unhide HL1; have := unhide HL2; have := unhide HR1; have := unhide HR2; have := unhide HMD; omega
                  have e0 : R1 = [] := List.eq_nil_of_length_eq_zero (by omega)
                  have HK1 : Hid (iblk wr D 3 (X ++ (L1 ++ (R1 ++ (L2 ++ (R2 ++ Y)))))) := hide (by have := unhide HK0; rw [e0] at this ⊢; exact this)
                  have HBA := HW
                  clear e0
                  have e1 : R1 = [] := List.eq_nil_of_length_eq_zero (by omega)
                  obtain ⟨M1, hM1⟩ : ∃ M1, M1 = L1 ++ R1 := ⟨_, rfl⟩
                  have HM1 : Hid (M1.Pairwise (ltR rem) ∧ M1.Perm (L1 ++ R1)) := hide (by subst hM1; refine ⟨?_, List.Perm.refl _⟩; rw [e1]; simpa using (unhide SS).1)
                  have HLM : Hid (M1.length = L1.length + R1.length) := hide (by rw [hM1, List.length_append])
                  have HK2 := hide (show iblk _ D 3 (X ++ (M1 ++ (L2 ++ (R2 ++ Y)))) by have := unhide HK1; rw [hM1, List.append_assoc]; exact this)
                  have HBB := HBA
                  clear e1 hM1
                  go_wp2_with fail
                  refine (unhide HREC2 hx2 hx4 M1 (unhide HLM) _ ((unhide HH).keep w _ (unhide HE) (unhide HBB)) (unhide HK2)).mono ?_
                  rintro e WC ⟨rfl, M2, sm2, pm2, hk1, hb1⟩
                  have HK3 := hide hk1
                  have HBC := hide ((unhide HBB).trans hb1)
                  have HM2 := hide (And.intro sm2 pm2)
                  clear hk1 hb1 sm2 pm2
                  go_wp2_with fail
                  exact bodyPost_end (v := .tuple #[]) (by simp [results, Try.results62, go_sem]) rfl ⟨rfl, unhide FIN M1 M2 (unhide HM1).1 (unhide HM1).2 (unhide HM2).1 (unhide HM2).2 _ (by have := unhide HK3; rwa [List.append_assoc] at this) (unhide HBC)⟩
              · try (exfalso; have := unhide HL1; have := unhide HL2; have := unhide HR1; have := unhide HR2; have := unhide HMD; omega)
                all_goals
                  have f1 : decide ((i : Int) < (q : Int)) = true := decide_eq_true (by have := unhide HL1; have := unhide HL2; have := unhide HR1; have := unhide HR2; have := unhide HMD; omega)
                  have g1 : ((i : Int) < (q : Int)) := by have := unhide HL1; have := unhide HL2; have := unhide HR1; have := unhide HR2; have := unhide HMD; omega
                  have f2 : decide ((q : Int) < (eN : Int)) = false := decide_eq_false (by have := unhide HL1; have := unhide HL2; have := unhide HR1; have := unhide HR2; have := unhide HMD; omega)
                  have g2 : ¬ ((q : Int) < (eN : Int)) := by have := unhide HL1; have := unhide HL2; have := unhide HR1; have := unhide HR2; have := unhide HMD; omega
                  have f3 : decide ((p : Int) < (i : Int)) = true := decide_eq_true (by have := unhide HL1; have := unhide HL2; have := unhide HR1; have := unhide HR2; have := unhide HMD; omega)
                  have g3 : ((p : Int) < (i : Int)) := by have := unhide HL1; have := unhide HL2; have := unhide HR1; have := unhide HR2; have := unhide HMD; omega
                  have f4 : decide ((i : Int) < (mid : Int)) = false := decide_eq_false (by have := unhide HL1; have := unhide HL2; have := unhide HR1; have := unhide HR2; have := unhide HMD; omega)
                  have g4 : ¬ ((i : Int) < (mid : Int)) := by have := unhide HL1; have := unhide HL2; have := unhide HR1; have := unhide HR2; have := unhide HMD; omega
                  have f5 : decide ((mid : Int) < (eN : Int)) = true := decide_eq_true (by have := unhide HL1; have := unhide HL2; have := unhide HR1; have := unhide HR2; have := unhide HMD; omega)
                  have g5 : ((mid : Int) < (eN : Int)) := by have := unhide HL1; have := unhide HL2; have := unhide HR1; have := unhide HR2; have := unhide HMD; omega
                  have f6 : decide ((eN : Int) < (r : Int)) = false := decide_eq_false (by have := unhide HL1; have := unhide HL2; have := unhide HR1; have := unhide HR2; have := unhide HMD; omega)
                  have g6 : ¬ ((eN : Int) < (r : Int)) := by have := unhide HL1; have := unhide HL2; have := unhide HR1; have := unhide HR2; have := unhide HMD; omega
                  have e0 : R1 = [] := List.eq_nil_of_length_eq_zero (by omega)
                  have HK1 : Hid (iblk wr D 3 (X ++ (L1 ++ (R1 ++ (L2 ++ (R2 ++ Y)))))) := hide (by have := unhide HK0; rw [e0] at this ⊢; exact this)
                  have HBA := HW
                  clear e0
                  have e1 : R1 = [] := List.eq_nil_of_length_eq_zero (by omega)
                  obtain ⟨M1, hM1⟩ : ∃ M1, M1 = L1 ++ R1 := ⟨_, rfl⟩
                  have HM1 : Hid (M1.Pairwise (ltR rem) ∧ M1.Perm (L1 ++ R1)) := hide (by subst hM1; refine ⟨?_, List.Perm.refl _⟩; rw [e1]; simpa using (unhide SS).1)
                  have HLM : Hid (M1.length = L1.length + R1.length) := hide (by rw [hM1, List.length_append])
                  have HK2 := hide (show iblk _ D 3 (X ++ (M1 ++ (L2 ++ (R2 ++ Y)))) by have := unhide HK1; rw [hM1, List.append_assoc]; exact this)
                  have HBB := HBA
                  clear e1 hM1
                  go_wp2_with fail
                  have e2 : R2 = [] := List.eq_nil_of_length_eq_zero (by omega)
                  exact bodyPost_end (v := .tuple #[]) (by simp [results, Try.results62, go_sem]) rfl ⟨rfl, unhide FIN M1 (L2 ++ R2) (unhide HM1).1 (unhide HM1).2 (by rw [e2]; simpa using (unhide SS).2.2.1) (List.Perm.refl _) _ (by have := unhide HK2; rw [List.append_assoc]; exact this) (unhide HBB)⟩
            · by_cases hx4 : 0 < R2.length
              · try (exfalso; have := unhide HL1; have := unhide HL2; have := unhide HR1; have := unhide HR2; have := unhide HMD; omega)
                all_goals
                  have f1 : decide ((i : Int) < (q : Int)) = true := decide_eq_true (by have := unhide HL1; have := unhide HL2; have := unhide HR1; have := unhide HR2; have := unhide HMD; omega)
                  have g1 : ((i : Int) < (q : Int)) := by have := unhide HL1; have := unhide HL2; have := unhide HR1; have := unhide HR2; have := unhide HMD; omega
                  have f2 : decide ((q : Int) < (eN : Int)) = false := decide_eq_false (by have := unhide HL1; have := unhide HL2; have := unhide HR1; have := unhide HR2; have := unhide HMD; omega)
                  have g2 : ¬ ((q : Int) < (eN : Int)) := by have := unhide HL1; have := unhide HL2; have := unhide HR1; have := unhide HR2; have := unhide HMD; omega
                  have f3 : decide ((p : Int) < (i : Int)) = false := decide_eq_false (by have := unhide HL1; have := unhide HL2; have := unhide HR1; have := unhide HR2; have := unhide HMD; omega)
                  have g3 : ¬ ((p : Int) < (i : Int)) := by have := unhide HL1; have := unhide HL2; have := unhide HR1; have := unhide HR2; have := unhide HMD; omega
                  have f4 : decide ((i : Int) < (mid : Int)) = false := decide_eq_false (by have := unhide HL1; have := unhide HL2; have := unhide HR1; have := unhide HR2; have := unhide HMD; omega)
                  have g4 : ¬ ((i : Int) < (mid : Int)) := by have := unhide HL1; have := unhide HL2; have := unhide HR1; have := unhide HR2; have := unhide HMD; omega
                  have f5 : decide ((mid : Int) < (eN : Int)) = true := decide_eq_true (by have := unhide HL1; have := unhide HL2; have := unhide HR1; have := unhide HR2; have := unhide HMD; omega)
                  have g5 : ((mid : Int) < (eN : Int)) := by have := unhide HL1; have := unhide HL2; have := unhide HR1; have := unhide HR2; have := unhide HMD; omega
                  have f6 : decide ((eN : Int) < (r : Int)) = true := decide_eq_true (by have := unhide HL1; have := unhide HL2; have := unhide HR1; have := unhide HR2; have := unhide HMD; omega)
                  have g6 : ((eN : Int) < (r : Int)) := by have := unhide HL1; have := unhide HL2; have := unhide HR1; have := unhide HR2; have := unhide HMD; omega
                  have e0 : R1 = [] := List.eq_nil_of_length_eq_zero (by omega)
                  have HK1 : Hid (iblk wr D 3 (X ++ (L1 ++ (R1 ++ (L2 ++ (R2 ++ Y)))))) := hide (by have := unhide HK0; rw [e0] at this ⊢; exact this)
                  have HBA := HW
                  clear e0
                  have e1 : R1 = [] := List.eq_nil_of_length_eq_zero (by omega)
                  obtain ⟨M1, hM1⟩ : ∃ M1, M1 = L1 ++ R1 := ⟨_, rfl⟩
                  have HM1 : Hid (M1.Pairwise (ltR rem) ∧ M1.Perm (L1 ++ R1)) := hide (by subst hM1; refine ⟨?_, List.Perm.refl _⟩; rw [e1]; simpa using (unhide SS).1)
                  have HLM : Hid (M1.length = L1.length + R1.length) := hide (by rw [hM1, List.length_append])
                  have HK2 := hide (show iblk _ D 3 (X ++ (M1 ++ (L2 ++ (R2 ++ Y)))) by have := unhide HK1; rw [hM1, List.append_assoc]; exact this)
                  have HBB := HBA
                  clear e1 hM1
                  go_wp2_with fail
                  refine (unhide HREC2 hx2 hx4 M1 (unhide HLM) _ ((unhide HH).keep w _ (unhide HE) (unhide HBB)) (unhide HK2)).mono ?_
                  rintro e WC ⟨rfl, M2, sm2, pm2, hk1, hb1⟩
                  have HK3 := hide hk1
                  have HBC := hide ((unhide HBB).trans hb1)
                  have HM2 := hide (And.intro sm2 pm2)
                  clear hk1 hb1 sm2 pm2
                  go_wp2_with fail
                  exact bodyPost_end (v := .tuple #[]) (by simp [results, Try.results62, go_sem]) rfl ⟨rfl, unhide FIN M1 M2 (unhide HM1).1 (unhide HM1).2 (unhide HM2).1 (unhide HM2).2 _ (by have := unhide HK3; rwa [List.append_assoc] at this) (unhide HBC)⟩
              · try (exfalso; have := unhide HL1; have := unhide HL2; have := unhide HR1; have := unhide HR2; have := unhide HMD; omega)
                all_goals
                  have f1 : decide ((i : Int) < (q : Int)) = true := decide_eq_true (by have := unhide HL1; have := unhide HL2; have := unhide HR1; have := unhide HR2; have := unhide HMD; omega)
                  have g1 : ((i : Int) < (q : Int)) := by have := unhide HL1; have := unhide HL2; have := unhide HR1; have := unhide HR2; have := unhide HMD; omega
                  have f2 : decide ((q : Int) < (eN : Int)) = false := decide_eq_false (by have := unhide HL1; have := unhide HL2; have := unhide HR1; have := unhide HR2; have := unhide HMD; omega)
                  have g2 : ¬ ((q : Int) < (eN : Int)) := by have := unhide HL1; have := unhide HL2; have := unhide HR1; have := unhide HR2; have := unhide HMD; omega
                  have f3 : decide ((p : Int) < (i : Int)) = false := decide_eq_false (by have := unhide HL1; have := unhide HL2; have := unhide HR1; have := unhide HR2; have := unhide HMD; omega)
                  have g3 : ¬ ((p : Int) < (i : Int)) := by have := unhide HL1; have := unhide HL2; have := unhide HR1; have := unhide HR2; have := unhide HMD; omega
                  have f4 : decide ((i : Int) < (mid : Int)) = false := decide_eq_false (by have := unhide HL1; have := unhide HL2; have := unhide HR1; have := unhide HR2; have := unhide HMD; omega)
                  have g4 : ¬ ((i : Int) < (mid : Int)) := by have := unhide HL1; have := unhide HL2; have := unhide HR1; have := unhide HR2; have := unhide HMD; omega
                  have f5 : decide ((mid : Int) < (eN : Int)) = true := decide_eq_true (by have := unhide HL1; have := unhide HL2; have := unhide HR1; have := unhide HR2; have := unhide HMD; omega)
                  have g5 : ((mid : Int) < (eN : Int)) := by have := unhide HL1; have := unhide HL2; have := unhide HR1; have := unhide HR2; have := unhide HMD; omega
                  have f6 : decide ((eN : Int) < (r : Int)) = false := decide_eq_false (by have := unhide HL1; have := unhide HL2; have := unhide HR1; have := unhide HR2; have := unhide HMD; omega)
                  have g6 : ¬ ((eN : Int) < (r : Int)) := by have := unhide HL1; have := unhide HL2; have := unhide HR1; have := unhide HR2; have := unhide HMD; omega
                  have e0 : R1 = [] := List.eq_nil_of_length_eq_zero (by omega)
                  have HK1 : Hid (iblk wr D 3 (X ++ (L1 ++ (R1 ++ (L2 ++ (R2 ++ Y)))))) := hide (by have := unhide HK0; rw [e0] at this ⊢; exact this)
                  have HBA := HW
                  clear e0
                  have e1 : R1 = [] := List.eq_nil_of_length_eq_zero (by omega)
                  obtain ⟨M1, hM1⟩ : ∃ M1, M1 = L1 ++ R1 := ⟨_, rfl⟩
                  have HM1 : Hid (M1.Pairwise (ltR rem) ∧ M1.Perm (L1 ++ R1)) := hide (by subst hM1; refine ⟨?_, List.Perm.refl _⟩; rw [e1]; simpa using (unhide SS).1)
                  have HLM : Hid (M1.length = L1.length + R1.length) := hide (by rw [hM1, List.length_append])
                  have HK2 := hide (show iblk _ D 3 (X ++ (M1 ++ (L2 ++ (R2 ++ Y)))) by have := unhide HK1; rw [hM1, List.append_assoc]; exact this)
                  have HBB := HBA
                  clear e1 hM1
                  go_wp2_with fail
                  have e2 : R2 = [] := List.eq_nil_of_length_eq_zero (by omega)
                  exact bodyPost_end (v := .tuple #[]) (by simp [results, Try.results62, go_sem]) rfl ⟨rfl, unhide FIN M1 (L2 ++ R2) (unhide HM1).1 (unhide HM1).2 (by rw [e2]; simpa using (unhide SS).2.2.1) (List.Perm.refl _) _ (by have := unhide HK2; rw [List.append_assoc]; exact this) (unhide HBB)⟩
        · by_cases hx1 : 0 < R1.length
          · by_cases hx3 : 0 < L1.length
            · by_cases hx4 : 0 < R2.length
              · try (exfalso; have := unhide HL1; have := unhide HL2; have := unhide HR1; have := unhide HR2; have := unhide HMD; omega)
                all_goals
                  have f1 : decide ((i : Int) < (q : Int)) = false := decide_eq_false (by have := unhide HL1; have := unhide HL2; have := unhide HR1; have := unhide HR2; have := unhide HMD; omega)
                  have g1 : ¬ ((i : Int) < (q : Int)) := by have := unhide HL1; have := unhide HL2; have := unhide HR1; have := unhide HR2; have := unhide HMD; omega
                  have f2 : decide ((q : Int) < (eN : Int)) = true := decide_eq_true (by have := unhide HL1; have := unhide HL2; have := unhide HR1; have := unhide HR2; have := unhide HMD; omega)
                  have g2 : ((q : Int) < (eN : Int)) := by have := unhide HL1; have := unhide HL2; have := unhide HR1; have := unhide HR2; have := unhide HMD; omega
                  have f3 : decide ((p : Int) < (i : Int)) = true := decide_eq_true (by have := unhide HL1; have := unhide HL2; have := unhide HR1; have := unhide HR2; have := unhide HMD; omega)
                  have g3 : ((p : Int) < (i : Int)) := by have := unhide HL1; have := unhide HL2; have := unhide HR1; have := unhide HR2; have := unhide HMD; omega
                  have f4 : decide ((i : Int) < (mid : Int)) = true := decide_eq_true (by have := unhide HL1; have := unhide HL2; have := unhide HR1; have := unhide HR2; have := unhide HMD; omega)
                  have g4 : ((i : Int) < (mid : Int)) := by have := unhide HL1; have := unhide HL2; have := unhide HR1; have := unhide HR2; have := unhide HMD; omega
                  have f5 : decide ((mid : Int) < (eN : Int)) = false := decide_eq_false (by have := unhide HL1; have := unhide HL2; have := unhide HR1; have := unhide HR2; have := unhide HMD; omega)
                  have g5 : ¬ ((mid : Int) < (eN : Int)) := by have := unhide HL1; have := unhide HL2; have := unhide HR1; have := unhide HR2; have := unhide HMD; omega
                  have f6 : decide ((eN : Int) < (r : Int)) = true := decide_eq_true (by have := unhide HL1; have := unhide HL2; have := unhide HR1; have := unhide HR2; have := unhide HMD; omega)
                  have g6 : ((eN : Int) < (r : Int)) := by have := unhide HL1; have := unhide HL2; have := unhide HR1; have := unhide HR2; have := unhide HMD; omega
                  have e0 : L2 = [] := List.eq_nil_of_length_eq_zero (by omega)
                  have HK1 : Hid (iblk wr D 3 (X ++ (L1 ++ (R1 ++ (L2 ++ (R2 ++ Y)))))) := hide (by have := unhide HK0; rw [e0] at this ⊢; exact this)
                  have HBA := HW
                  clear e0
                  go_wp2_with fail
                  refine (unhide HREC1 hx3 hx1 _ ((unhide HH).keep w _ (unhide HE) (unhide HBA)) (unhide HK1)).mono ?_
                  rintro e WB ⟨rfl, M1, sm1, pm1, hk1, hb1⟩
                  have HK2 := hide hk1
                  have HBB := hide ((unhide HBA).trans hb1)
                  have HM1 := hide (And.intro sm1 pm1)
                  have hm1 : M1.length = L1.length + R1.length := by rw [pm1.length_eq, List.length_append]
                  have HLM := hide hm1
                  clear hk1 hb1 sm1 pm1 hm1
                  go_wp2_with fail
                  have e2 : L2 = [] := List.eq_nil_of_length_eq_zero (by omega)
                  exact bodyPost_end (v := .tuple #[]) (by simp [results, Try.results62, go_sem]) rfl ⟨rfl, unhide FIN M1 (L2 ++ R2) (unhide HM1).1 (unhide HM1).2 (by rw [e2]; simpa using (unhide SS).2.2.2) (List.Perm.refl _) _ (by have := unhide HK2; rw [List.append_assoc]; exact this) (unhide HBB)⟩
              · try (exfalso; have := unhide HL1; have := unhide HL2; have := unhide HR1; have := unhide HR2; have := unhide HMD; omega)
                all_goals
                  have f1 : decide ((i : Int) < (q : Int)) = false := decide_eq_false (by have := unhide HL1; have := unhide HL2; have := unhide HR1; have := unhide HR2; have := unhide HMD; omega)
                  have g1 : ¬ ((i : Int) < (q : Int)) := by have := unhide HL1; have := unhide HL2; have := unhide HR1; have := unhide HR2; have := unhide HMD; omega
                  have f2 : decide ((q : Int) < (eN : Int)) = true := decide_eq_true (by have := unhide HL1; have := unhide HL2; have := unhide HR1; have := unhide HR2; have := unhide HMD; omega)
                  have g2 : ((q : Int) < (eN : Int)) := by have := unhide HL1; have := unhide HL2; have := unhide HR1; have := unhide HR2; have := unhide HMD; omega
                  have f3 : decide ((p : Int) < (i : Int)) = true := decide_eq_true (by have := unhide HL1; have := unhide HL2; have := unhide HR1; have := unhide HR2; have := unhide HMD; omega)
                  have g3 : ((p : Int) < (i : Int)) := by have := unhide HL1; have := unhide HL2; have := unhide HR1; have := unhide HR2; have := unhide HMD; omega
                  have f4 : decide ((i : Int) < (mid : Int)) = true := decide_eq_true (by have := unhide HL1; have := unhide HL2; have := unhide HR1; have := unhide HR2; have := unhide HMD; omega)
                  have g4 : ((i : Int) < (mid : Int)) := by have := unhide HL1; have := unhide HL2; have := unhide HR1; have := unhide HR2; have := unhide HMD; omega
                  have f5 : decide ((mid : Int) < (eN : Int)) = false := decide_eq_false (by have := unhide HL1; have := unhide HL2; have := unhide HR1; have := unhide HR2; have := unhide HMD; omega)
                  have g5 : ¬ ((mid : Int) < (eN : Int)) := by have := unhide HL1; have := unhide HL2; have := unhide HR1; have := unhide HR2; have := unhide HMD; omega
                  have f6 : decide ((eN : Int) < (r : Int)) = false := decide_eq_false (by have := unhide HL1; have := unhide HL2; have := unhide HR1; have := unhide HR2; have := unhide HMD; omega)
                  have g6 : ¬ ((eN : Int) < (r : Int)) := by have := unhide HL1; have := unhide HL2; have := unhide HR1; have := unhide HR2; have := unhide HMD; omega
                  have e0 : L2 = [] := List.eq_nil_of_length_eq_zero (by omega)
                  have HK1 : Hid (iblk wr D 3 (X ++ (L1 ++ (R1 ++ (L2 ++ (R2 ++ Y)))))) := hide (by have := unhide HK0; rw [e0] at this ⊢; exact this)
                  have HBA := HW
                  clear e0
                  go_wp2_with fail
                  refine (unhide HREC1 hx3 hx1 _ ((unhide HH).keep w _ (unhide HE) (unhide HBA)) (unhide HK1)).mono ?_
                  rintro e WB ⟨rfl, M1, sm1, pm1, hk1, hb1⟩
                  have HK2 := hide hk1
                  have HBB := hide ((unhide HBA).trans hb1)
                  have HM1 := hide (And.intro sm1 pm1)
                  have hm1 : M1.length = L1.length + R1.length := by rw [pm1.length_eq, List.length_append]
                  have HLM := hide hm1
                  clear hk1 hb1 sm1 pm1 hm1
                  go_wp2_with fail
                  have e2 : R2 = [] := List.eq_nil_of_length_eq_zero (by omega)
                  exact bodyPost_end (v := .tuple #[]) (by simp [results, Try.results62, go_sem]) rfl ⟨rfl, unhide FIN M1 (L2 ++ R2) (unhide HM1).1 (unhide HM1).2 (by rw [e2]; simpa using (unhide SS).2.2.1) (List.Perm.refl _) _ (by have := unhide HK2; rw [List.append_assoc]; exact this) (unhide HBB)⟩
            · by_cases hx4 : 0 < R2.length
              · try (exfalso; have := unhide HL1; have := unhide HL2; have := unhide HR1; have := unhide HR2; have := unhide HMD; omega)
                all_goals
                  have f1 : decide ((i : Int) < (q : Int)) = false := decide_eq_false (by have := unhide HL1; have := unhide HL2; have := unhide HR1; have := unhide HR2; have := unhide HMD; omega)
                  have g1 : ¬ ((i : Int) < (q : Int)) := by have := unhide HL1; have := unhide HL2; have := unhide HR1; have := unhide HR2; have := unhide HMD; omega
                  have f2 : decide ((q : Int) < (eN : Int)) = true := decide_eq_true (by have := unhide HL1; have := unhide HL2; have := unhide HR1; have := unhide HR2; have := unhide HMD; omega)
                  have g2 : ((q : Int) < (eN : Int)) := by have := unhide HL1; have := unhide HL2; have := unhide HR1; have := unhide HR2; have := unhide HMD; omega
                  have f3 : decide ((p : Int) < (i : Int)) = false := decide_eq_false (by have := unhide HL1; have := unhide HL2; have := unhide HR1; have := unhide HR2; have := unhide HMD; omega)
                  have g3 : ¬ ((p : Int) < (i : Int)) := by have := unhide HL1; have := unhide HL2; have := unhide HR1; have := unhide HR2; have := unhide HMD; omega
                  have f4 : decide ((i : Int) < (mid : Int)) = true := decide_eq_true (by have := unhide HL1; have := unhide HL2; have := unhide HR1; have := unhide HR2; have := unhide HMD; omega)
                  have g4 : ((i : Int) < (mid : Int)) := by have := unhide HL1; have := unhide HL2; have := unhide HR1; have := unhide HR2; have := unhide HMD; omega
                  have f5 : decide ((mid : Int) < (eN : Int)) = false := decide_eq_false (by have := unhide HL1; have := unhide HL2; have := unhide HR1; have := unhide HR2; have := unhide HMD; omega)
                  have g5 : ¬ ((mid : Int) < (eN : Int)) := by have := unhide HL1; have := unhide HL2; have := unhide HR1; have := unhide HR2; have := unhide HMD; omega
                  have f6 : decide ((eN : Int) < (r : Int)) = true := decide_eq_true (by have := unhide HL1; have := unhide HL2; have := unhide HR1; have := unhide HR2; have := unhide HMD; omega)
                  have g6 : ((eN : Int) < (r : Int)) := by have := unhide HL1; have := unhide HL2; have := unhide HR1; have := unhide HR2; have := unhide HMD; omega
                  have e0 : L2 = [] := List.eq_nil_of_length_eq_zero (by omega)
                  have HK1 : Hid (iblk wr D 3 (X ++ (L1 ++ (R1 ++ (L2 ++ (R2 ++ Y)))))) := hide (by have := unhide HK0; rw [e0] at this ⊢; exact this)
                  have HBA := HW
                  clear e0
                  have e1 : L1 = [] := List.eq_nil_of_length_eq_zero (by omega)
                  obtain ⟨M1, hM1⟩ : ∃ M1, M1 = L1 ++ R1 := ⟨_, rfl⟩
                  have HM1 : Hid (M1.Pairwise (ltR rem) ∧ M1.Perm (L1 ++ R1)) := hide (by subst hM1; refine ⟨?_, List.Perm.refl _⟩; rw [e1]; simpa using (unhide SS).2.1)
                  have HLM : Hid (M1.length = L1.length + R1.length) := hide (by rw [hM1, List.length_append])
                  have HK2 := hide (show iblk _ D 3 (X ++ (M1 ++ (L2 ++ (R2 ++ Y)))) by have := unhide HK1; rw [hM1, List.append_assoc]; exact this)
                  have HBB := HBA
                  clear e1 hM1
                  go_wp2_with fail
                  have e2 : L2 = [] := List.eq_nil_of_length_eq_zero (by omega)
                  exact bodyPost_end (v := .tuple #[]) (by simp [results, Try.results62, go_sem]) rfl ⟨rfl, unhide FIN M1 (L2 ++ R2) (unhide HM1).1 (unhide HM1).2 (by rw [e2]; simpa using (unhide SS).2.2.2) (List.Perm.refl _) _ (by have := unhide HK2; rw [List.append_assoc]; exact this) (unhide HBB)⟩
              · try (exfalso; have := unhide HL1; have := unhide HL2; have := unhide HR1; have := unhide HR2; have := unhide HMD; omega)
                all_goals
                  have f1 : decide ((i : Int) < (q : Int)) = false := decide_eq_false (by have := unhide HL1; have := unhide HL2; have := unhide HR1; have := unhide HR2; have := unhide HMD; omega)
                  have g1 : ¬ ((i : Int) < (q : Int)) := by have := unhide HL1; have := unhide HL2; have := unhide HR1; have := unhide HR2; have := unhide HMD; omega
                  have f2 : decide ((q : Int) < (eN : Int)) = true := decide_eq_true (by have := unhide HL1; have := unhide HL2; have := unhide HR1; have := unhide HR2; have := unhide HMD; omega)
                  have g2 : ((q : Int) < (eN : Int)) := by have := unhide HL1; have := unhide HL2; have := unhide HR1; have := unhide HR2; have := unhide HMD; omega
                  have f3 : decide ((p : Int) < (i : Int)) = false := decide_eq_false (by have := unhide HL1; have := unhide HL2; have := unhide HR1; have := unhide HR2; have := unhide HMD; omega)
                  have g3 : ¬ ((p : Int) < (i : Int)) := by have := unhide HL1; have := unhide HL2; have := unhide HR1; have := unhide HR2; have := unhide HMD; omega
                  have f4 : decide ((i : Int) < (mid : Int)) = true := decide_eq_true (by have := unhide HL1; have := unhide HL2; have := unhide HR1; have := unhide HR2; have := unhide HMD; omega)
                  have g4 : ((i : Int) < (mid : Int)) := by have := unhide HL1; have := unhide HL2; have := unhide HR1; have := unhide HR2; have := unhide HMD; omega
                  have f5 : decide ((mid : Int) < (eN : Int)) = false := decide_eq_false (by have := unhide HL1; have := unhide HL2; have := unhide HR1; have := unhide HR2; have := unhide HMD; omega)
                  have g5 : ¬ ((mid : Int) < (eN : Int)) := by have := unhide HL1; have := unhide HL2; have := unhide HR1; have := unhide HR2; have := unhide HMD; omega
                  have f6 : decide ((eN : Int) < (r : Int)) = false := decide_eq_false (by have := unhide HL1; have := unhide HL2; have := unhide HR1; have := unhide HR2; have := unhide HMD; omega)
                  have g6 : ¬ ((eN : Int) < (r : Int)) := by have := unhide HL1; have := unhide HL2; have := unhide HR1; have := unhide HR2; have := unhide HMD; omega
                  have e0 : L2 = [] := List.eq_nil_of_length_eq_zero (by omega)
                  have HK1 : Hid (iblk wr D 3 (X ++ (L1 ++ (R1 ++ (L2 ++ (R2 ++ Y)))))) := hide (by have := unhide HK0; rw [e0] at this ⊢; exact this)
                  have HBA := HW
                  clear e0
                  have e1 : L1 = [] := List.eq_nil_of_length_eq_zero (by omega)
                  obtain ⟨M1, hM1⟩ : ∃ M1, M1 = L1 ++ R1 := ⟨_, rfl⟩
                  have HM1 : Hid (M1.Pairwise (ltR rem) ∧ M1.Perm (L1 ++ R1)) := hide (by subst hM1; refine ⟨?_, List.Perm.refl _⟩; rw [e1]; simpa using (unhide SS).2.1)
                  have HLM : Hid (M1.length = L1.length + R1.length) := hide (by rw [hM1, List.length_append])
                  have HK2 := hide (show iblk _ D 3 (X ++ (M1 ++ (L2 ++ (R2 ++ Y)))) by have := unhide HK1; rw [hM1, List.append_assoc]; exact this)
                  have HBB := HBA
                  clear e1 hM1
                  go_wp2_with fail
                  have e2 : R2 = [] := List.eq_nil_of_length_eq_zero (by omega)
                  exact bodyPost_end (v := .tuple #[]) (by simp [results, Try.results62, go_sem]) rfl ⟨rfl, unhide FIN M1 (L2 ++ R2) (unhide HM1).1 (unhide HM1).2 (by rw [e2]; simpa using (unhide SS).2.2.1) (List.Perm.refl _) _ (by have := unhide HK2; rw [List.append_assoc]; exact this) (unhide HBB)⟩
          · by_cases hx3 : 0 < L1.length
            · by_cases hx4 : 0 < R2.length
              · try (exfalso; have := unhide HL1; have := unhide HL2; have := unhide HR1; have := unhide HR2; have := unhide HMD; omega)
                all_goals
                  have f1 : decide ((i : Int) < (q : Int)) = false := decide_eq_false (by have := unhide HL1; have := unhide HL2; have := unhide HR1; have := unhide HR2; have := unhide HMD; omega)
                  have g1 : ¬ ((i : Int) < (q : Int)) := by have := unhide HL1; have := unhide HL2; have := unhide HR1; have := unhide HR2; have := unhide HMD; omega
                  have f2 : decide ((q : Int) < (eN : Int)) = false := decide_eq_false (by have := unhide HL1; have := unhide HL2; have := unhide HR1; have := unhide HR2; have := unhide HMD; omega)
                  have g2 : ¬ ((q : Int) < (eN : Int)) := by have := unhide HL1; have := unhide HL2; have := unhide HR1; have := unhide HR2; have := unhide HMD; omega
                  have f3 : decide ((p : Int) < (i : Int)) = true := decide_eq_true (by have := unhide HL1; have := unhide HL2; have := unhide HR1; have := unhide HR2; have := unhide HMD; omega)
                  have g3 : ((p : Int) < (i : Int)) := by have := unhide HL1; have := unhide HL2; have := unhide HR1; have := unhide HR2; have := unhide HMD; omega
                  have f4 : decide ((i : Int) < (mid : Int)) = false := decide_eq_false (by have := unhide HL1; have := unhide HL2; have := unhide HR1; have := unhide HR2; have := unhide HMD; omega)
                  have g4 : ¬ ((i : Int) < (mid : Int)) := by have := unhide HL1; have := unhide HL2; have := unhide HR1; have := unhide HR2; have := unhide HMD; omega
                  have f5 : decide ((mid : Int) < (eN : Int)) = false := decide_eq_false (by have := unhide HL1; have := unhide HL2; have := unhide HR1; have := unhide HR2; have := unhide HMD; omega)
                  have g5 : ¬ ((mid : Int) < (eN : Int)) := by have := unhide HL1; have := unhide HL2; have := unhide HR1; have := unhide HR2; have := unhide HMD; omega
                  have f6 : decide ((eN : Int) < (r : Int)) = true := decide_eq_true (by have := unhide HL1; have := unhide HL2; have := unhide HR1; have := unhide HR2; have := unhide HMD; omega)
                  have g6 : ((eN : Int) < (r : Int)) := by have := unhide HL1; have := unhide HL2; have := unhide HR1; have := unhide HR2; have := unhide HMD; omega
                  have e0 : R1 = [] := List.eq_nil_of_length_eq_zero (by omega)
                  have HK1 : Hid (iblk wr D 3 (X ++ (L1 ++ (R1 ++ (L2 ++ (R2 ++ Y)))))) := hide (by have := unhide HK0; rw [e0] at this ⊢; exact this)
                  have HBA := HW
                  clear e0
                  have e1 : R1 = [] := List.eq_nil_of_length_eq_zero (by omega)
                  obtain ⟨M1, hM1⟩ : ∃ M1, M1 = L1 ++ R1 := ⟨_, rfl⟩
                  have HM1 : Hid (M1.Pairwise (ltR rem) ∧ M1.Perm (L1 ++ R1)) := hide (by subst hM1; refine ⟨?_, List.Perm.refl _⟩; rw [e1]; simpa using (unhide SS).1)
                  have HLM : Hid (M1.length = L1.length + R1.length) := hide (by rw [hM1, List.length_append])
                  have HK2 := hide (show iblk _ D 3 (X ++ (M1 ++ (L2 ++ (R2 ++ Y)))) by have := unhide HK1; rw [hM1, List.append_assoc]; exact this)
                  have HBB := HBA
                  clear e1 hM1
                  go_wp2_with fail
                  have e2 : L2 = [] := List.eq_nil_of_length_eq_zero (by omega)
                  exact bodyPost_end (v := .tuple #[]) (by simp [results, Try.results62, go_sem]) rfl ⟨rfl, unhide FIN M1 (L2 ++ R2) (unhide HM1).1 (unhide HM1).2 (by rw [e2]; simpa using (unhide SS).2.2.2) (List.Perm.refl _) _ (by have := unhide HK2; rw [List.append_assoc]; exact this) (unhide HBB)⟩
              · try (exfalso; have := unhide HL1; have := unhide HL2; have := unhide HR1; have := unhide HR2; have := unhide HMD; omega)
                all_goals
                  have f1 : decide ((i : Int) < (q : Int)) = false := decide_eq_false (by have := unhide HL1; have := unhide HL2; have := unhide HR1; have := unhide HR2; have := unhide HMD; omega)
                  have g1 : ¬ ((i : Int) < (q : Int)) := by have := unhide HL1; have := unhide HL2; have := unhide HR1; have := unhide HR2; have := unhide HMD; omega
                  have f2 : decide ((q : Int) < (eN : Int)) = false := decide_eq_false (by have := unhide HL1; have := unhide HL2; have := unhide HR1; have := unhide HR2; have := unhide HMD; omega)
                  have g2 : ¬ ((q : Int) < (eN : Int)) := by have := unhide HL1; have := unhide HL2; have := unhide HR1; have := unhide HR2; have := unhide HMD; omega
                  have f3 : decide ((p : Int) < (i : Int)) = true := decide_eq_true (by have := unhide HL1; have := unhide HL2; have := unhide HR1; have := unhide HR2; have := unhide HMD; omega)
                  have g3 : ((p : Int) < (i : Int)) := by have := unhide HL1; have := unhide HL2; have := unhide HR1; have := unhide HR2; have := unhide HMD; omega
                  have f4 : decide ((i : Int) < (mid : Int)) = false := decide_eq_false (by have := unhide HL1; have := unhide HL2; have := unhide HR1; have := unhide HR2; have := unhide HMD; omega)
                  have g4 : ¬ ((i : Int) < (mid : Int)) := by have := unhide HL1; have := unhide HL2; have := unhide HR1; have := unhide HR2; have := unhide HMD; omega
                  have f5 : decide ((mid : Int) < (eN : Int)) = false := decide_eq_false (by have := unhide HL1; have := unhide HL2; have := unhide HR1; have := unhide HR2; have := unhide HMD; omega)
                  have g5 : ¬ ((mid : Int) < (eN : Int)) := by have := unhide HL1; have := unhide HL2; have := unhide HR1; have := unhide HR2; have := unhide HMD; omega
                  have f6 : decide ((eN : Int) < (r : Int)) = false := decide_eq_false (by have := unhide HL1; have := unhide HL2; have := unhide HR1; have := unhide HR2; have := unhide HMD; omega)
                  have g6 : ¬ ((eN : Int) < (r : Int)) := by have := unhide HL1; have := unhide HL2; have := unhide HR1; have := unhide HR2; have := unhide HMD; omega
                  have e0 : R1 = [] := List.eq_nil_of_length_eq_zero (by omega)
                  have HK1 : Hid (iblk wr D 3 (X ++ (L1 ++ (R1 ++ (L2 ++ (R2 ++ Y)))))) := hide (by have := unhide HK0; rw [e0] at this ⊢; exact this)
                  have HBA := HW
                  clear e0
                  have e1 : R1 = [] := List.eq_nil_of_length_eq_zero (by omega)
                  obtain ⟨M1, hM1⟩ : ∃ M1, M1 = L1 ++ R1 := ⟨_, rfl⟩
                  have HM1 : Hid (M1.Pairwise (ltR rem) ∧ M1.Perm (L1 ++ R1)) := hide (by subst hM1; refine ⟨?_, List.Perm.refl _⟩; rw [e1]; simpa using (unhide SS).1)
                  have HLM : Hid (M1.length = L1.length + R1.length) := hide (by rw [hM1, List.length_append])
                  have HK2 := hide (show iblk _ D 3 (X ++ (M1 ++ (L2 ++ (R2 ++ Y)))) by have := unhide HK1; rw [hM1, List.append_assoc]; exact this)
                  have HBB := HBA
                  clear e1 hM1
                  go_wp2_with fail
                  have e2 : R2 = [] := List.eq_nil_of_length_eq_zero (by omega)
                  exact bodyPost_end (v := .tuple #[]) (by simp [results, Try.results62, go_sem]) rfl ⟨rfl, unhide FIN M1 (L2 ++ R2) (unhide HM1).1 (unhide HM1).2 (by rw [e2]; simpa using (unhide SS).2.2.1) (List.Perm.refl _) _ (by have := unhide HK2; rw [List.append_assoc]; exact this) (unhide HBB)⟩
            · by_cases hx4 : 0 < R2.length
              · try (exfalso; have := unhide HL1; have := unhide HL2; have := unhide HR1; have := unhide HR2; have := unhide HMD; omega)
                all_goals
                  have f1 : decide ((i : Int) < (q : Int)) = false := decide_eq_false (by have := unhide HL1; have := unhide HL2; have := unhide HR1; have := unhide HR2; have := unhide HMD; omega)
                  have g1 : ¬ ((i : Int) < (q : Int)) := by have := unhide HL1; have := unhide HL2; have := unhide HR1; have := unhide HR2; have := unhide HMD; omega
                  have f2 : decide ((q : Int) < (eN : Int)) = false := decide_eq_false (by have := unhide HL1; have := unhide HL2; have := unhide HR1; have := unhide HR2; have := unhide HMD; omega)
                  have g2 : ¬ ((q : Int) < (eN : Int)) := by have := unhide HL1; have := unhide HL2; have := unhide HR1; have := unhide HR2; have := unhide HMD; omega
                  have f3 : decide ((p : Int) < (i : Int)) = false := decide_eq_false (by have := unhide HL1; have := unhide HL2; have := unhide HR1; have := unhide HR2; have := unhide HMD; omega)
                  have g3 : ¬ ((p : Int) < (i : Int)) := by have := unhide HL1; have := unhide HL2; have := unhide HR1; have := unhide HR2; have := unhide HMD; omega
                  have f4 : decide ((i : Int) < (mid : Int)) = false := decide_eq_false (by have := unhide HL1; have := unhide HL2; have := unhide HR1; have := unhide HR2; have := unhide HMD; omega)
                  have g4 : ¬ ((i : Int) < (mid : Int)) := by have := unhide HL1; have := unhide HL2; have := unhide HR1; have := unhide HR2; have := unhide HMD; omega
                  have f5 : decide ((mid : Int) < (eN : Int)) = false := decide_eq_false (by have := unhide HL1; have := unhide HL2; have := unhide HR1; have := unhide HR2; have := unhide HMD; omega)
                  have g5 : ¬ ((mid : Int) < (eN : Int)) := by have := unhide HL1; have := unhide HL2; have := unhide HR1; have := unhide HR2; have := unhide HMD; omega
                  have f6 : decide ((eN : Int) < (r : Int)) = true := decide_eq_true (by have := unhide HL1; have := unhide HL2; have := unhide HR1; have := unhide HR2; have := unhide HMD; omega)
                  have g6 : ((eN : Int) < (r : Int)) := by have := unhide HL1; have := unhide HL2; have := unhide HR1; have := unhide HR2; have := unhide HMD; omega
                  have e0 : R1 = [] := List.eq_nil_of_length_eq_zero (by omega)
                  have HK1 : Hid (iblk wr D 3 (X ++ (L1 ++ (R1 ++ (L2 ++ (R2 ++ Y)))))) := hide (by have := unhide HK0; rw [e0] at this ⊢; exact this)
                  have HBA := HW
                  clear e0
                  have e1 : R1 = [] := List.eq_nil_of_length_eq_zero (by omega)
                  obtain ⟨M1, hM1⟩ : ∃ M1, M1 = L1 ++ R1 := ⟨_, rfl⟩
                  have HM1 : Hid (M1.Pairwise (ltR rem) ∧ M1.Perm (L1 ++ R1)) := hide (by subst hM1; refine ⟨?_, List.Perm.refl _⟩; rw [e1]; simpa using (unhide SS).1)
                  have HLM : Hid (M1.length = L1.length + R1.length) := hide (by rw [hM1, List.length_append])
                  have HK2 := hide (show iblk _ D 3 (X ++ (M1 ++ (L2 ++ (R2 ++ Y)))) by have := unhide HK1; rw [hM1, List.append_assoc]; exact this)
                  have HBB := HBA
                  clear e1 hM1
                  go_wp2_with fail
                  have e2 : L2 = [] := List.eq_nil_of_length_eq_zero (by omega)
                  exact bodyPost_end (v := .tuple #[]) (by simp [results, Try.results62, go_sem]) rfl ⟨rfl, unhide FIN M1 (L2 ++ R2) (unhide HM1).1 (unhide HM1).2 (by rw [e2]; simpa using (unhide SS).2.2.2) (List.Perm.refl _) _ (by have := unhide HK2; rw [List.append_assoc]; exact this) (unhide HBB)⟩
              · try (exfalso; have := unhide HL1; have := unhide HL2; have := unhide HR1; have := unhide HR2; have := unhide HMD; omega)
                all_goals
                  have f1 : decide ((i : Int) < (q : Int)) = false := decide_eq_false (by have := unhide HL1; have := unhide HL2; have := unhide HR1; have := unhide HR2; have := unhide HMD; omega)
                  have g1 : ¬ ((i : Int) < (q : Int)) := by have := unhide HL1; have := unhide HL2; have := unhide HR1; have := unhide HR2; have := unhide HMD; omega
                  have f2 : decide ((q : Int) < (eN : Int)) = false := decide_eq_false (by have := unhide HL1; have := unhide HL2; have := unhide HR1; have := unhide HR2; have := unhide HMD; omega)
                  have g2 : ¬ ((q : Int) < (eN : Int)) := by have := unhide HL1; have := unhide HL2; have := unhide HR1; have := unhide HR2; have := unhide HMD; omega
                  have f3 : decide ((p : Int) < (i : Int)) = false := decide_eq_false (by have := unhide HL1; have := unhide HL2; have := unhide HR1; have := unhide HR2; have := unhide HMD; omega)
                  have g3 : ¬ ((p : Int) < (i : Int)) := by have := unhide HL1; have := unhide HL2; have := unhide HR1; have := unhide HR2; have := unhide HMD; omega
                  have f4 : decide ((i : Int) < (mid : Int)) = false := decide_eq_false (by have := unhide HL1; have := unhide HL2; have := unhide HR1; have := unhide HR2; have := unhide HMD; omega)
                  have g4 : ¬ ((i : Int) < (mid : Int)) := by have := unhide HL1; have := unhide HL2; have := unhide HR1; have := unhide HR2; have := unhide HMD; omega
                  have f5 : decide ((mid : Int) < (eN : Int)) = false := decide_eq_false (by have := unhide HL1; have := unhide HL2; have := unhide HR1; have := unhide HR2; have := unhide HMD; omega)
                  have g5 : ¬ ((mid : Int) < (eN : Int)) := by have := unhide HL1; have := unhide HL2; have := unhide HR1; have := unhide HR2; have := unhide HMD; omega
                  have f6 : decide ((eN : Int) < (r : Int)) = false := decide_eq_false (by have := unhide HL1; have := unhide HL2; have := unhide HR1; have := unhide HR2; have := unhide HMD; omega)
                  have g6 : ¬ ((eN : Int) < (r : Int)) := by have := unhide HL1; have := unhide HL2; have := unhide HR1; have := unhide HR2; have := unhide HMD; omega
                  have e0 : R1 = [] := List.eq_nil_of_length_eq_zero (by omega)
                  have HK1 : Hid (iblk wr D 3 (X ++ (L1 ++ (R1 ++ (L2 ++ (R2 ++ Y)))))) := hide (by have := unhide HK0; rw [e0] at this ⊢; exact this)
                  have HBA := HW
                  clear e0
                  have e1 : R1 = [] := List.eq_nil_of_length_eq_zero (by omega)
                  obtain ⟨M1, hM1⟩ : ∃ M1, M1 = L1 ++ R1 := ⟨_, rfl⟩
                  have HM1 : Hid (M1.Pairwise (ltR rem) ∧ M1.Perm (L1 ++ R1)) := hide (by subst hM1; refine ⟨?_, List.Perm.refl _⟩; rw [e1]; simpa using (unhide SS).1)
                  have HLM : Hid (M1.length = L1.length + R1.length) := hide (by rw [hM1, List.length_append])
                  have HK2 := hide (show iblk _ D 3 (X ++ (M1 ++ (L2 ++ (R2 ++ Y)))) by have := unhide HK1; rw [hM1, List.append_assoc]; exact this)
                  have HBB := HBA
                  clear e1 hM1
                  go_wp2_with fail
                  have e2 : R2 = [] := List.eq_nil_of_length_eq_zero (by omega)
                  exact bodyPost_end (v := .tuple #[]) (by simp [results, Try.results62, go_sem]) rfl ⟨rfl, unhide FIN M1 (L2 ++ R2) (unhide HM1).1 (unhide HM1).2 (by rw [e2]; simpa using (unhide SS).2.2.1) (List.Perm.refl _) _ (by have := unhide HK2; rw [List.append_assoc]; exact this) (unhide HBB)⟩
end Go.Proofs.Ytmoobfbjehgdnaa
