/-
  symMerge where the left stretch is one element.
-/
import Derived.Test.YtmoobfbjehgdnaaSymMathB
import Derived.BigRegion
namespace Go.Proofs.Ytmoobfbjehgdnaa
open Go.ChangeShapes Go.WideShapes Go.ChangeAt Go.RowKit
set_option linter.unusedVariables false
set_option linter.unusedSimpArgs false

theorem sw_set' (P Q : List Int) (t e : Int) : ((P ++ (t :: e :: Q)).set P.length e).set (P.length + 1) t = P ++ (e :: t :: Q) := by
  rw [List.set_append, if_neg (by omega), Nat.sub_self, List.set_append, if_neg (by omega), show P.length + 1 - P.length = 1 by omega]
  rfl
/-- what stands behind x in the row -/
theorem behind (X T : List Int) (x y : Int) (k : Nat) (h : T[k]? = some y) : (X ++ (x :: T))[X.length]? = some x ∧ (X ++ (x :: T))[X.length + 1 + k]? = some y := by
  constructor
  · rw [List.getElem?_append_right (Nat.le_refl _), Nat.sub_self]; rfl
  · rw [List.getElem?_append_right (by omega), show X.length + 1 + k - X.length = k + 1 by omega]; exact h

set_option maxHeartbeats 1000000 in
set_option maxRecDepth 100000 in
theorem syl_any (D m : Nat) (c : Value) (cm : Int → Int → Int) (ok : Int → Prop) (Env : World → Prop) (H : Cmp c D cm ok Env) (X R1 R2 Y : List Int) (x : Int) (w : World) (hm : m ≤ 4096) (hl : X.length + 1 + R1.length + R2.length + Y.length = m) (hn : 0 < R1.length + R2.length)
    (hokx : ok x) (hok : ∀ y ∈ R1 ++ R2, ok y) (h1 : ∀ y ∈ R1, cm y x < 0) (h2 : ∀ y ∈ R2, ¬ cm y x < 0) (he : Env w) (hb : iblk w D 3 (X ++ (x :: (R1 ++ (R2 ++ Y))))) :
    Calls Try.prog 62 #[.slice (some ⟨D, 0, none⟩) m m, .int .i64 (X.length : Int), .int .i64 ((X.length : Int) + 1), .int .i64 ((X.length + 1 + R1.length + R2.length : Nat) : Int), .func (.func 44) #[] #[c]] w fun e w' => e = .returned (.tuple #[]) ∧ iblk w' D 3 (X ++ (R1 ++ (x :: (R2 ++ Y)))) ∧ But D w w' := by
  have HI := hide hb
  have HE := hide he
  have HH := hide H
  have EG := H.enters
  generalize hp : X.length = p at *
  generalize hq : p + 1 + R1.length + R2.length = q
  have q1 : p + 1 < q := by omega
  have q2 : q ≤ m := by omega
  have q3 : (p : Int) ≤ 4096 := by omega
  have q4 : (q : Int) ≤ 4096 := by omega
  have HP := hide hp
  have HQ := hide hq
  have HL := hide hl
  have HOX := hide hokx
  have HOK := hide hok
  have H1 := hide h1
  have H2 := hide h2
  have e1 : ((p : Int) + 1 - (p : Int) == 1) = true := by rw [beq_iff_eq]; omega
  have e2 : IntKind.i64.wrap ((p : Int) + 1 - (p : Int)) = 1 := by rw [show (p : Int) + 1 - (p : Int) = 1 by omega]; rfl
  clear hb he H hp hq hl hokx hok h1 h2 hn
  go_enter Try.func62, Try.ntmps62
  go_wp2_with fail
  go_loopw [10, 11] (fun z y W => ∃ (i j : Nat), z = .int .i64 (i : Int) ∧ y = .int .i64 (j : Int) ∧ p + 1 ≤ i ∧ i ≤ p + 1 + R1.length ∧ p + 1 + R1.length ≤ j ∧ j ≤ q ∧ iblk W D 3 (X ++ (x :: (R1 ++ (R2 ++ Y)))) ∧ But D w W) (fun z y _ => (intOf y).toNat - (intOf z).toNat)
  case atStart => exact ⟨p + 1, q, by simp, rfl, Nat.le_refl _, by omega, by have := unhide HQ; omega, Nat.le_refl _, unhide HI, But.refl _ _⟩
  case round =>
    obtain ⟨i, j, rfl, rfl, hi1, hi2, hj1, hj2, hk, hw⟩ := hrel
    have HW := hide hw
    have HK := hide hk
    clear hw hk HI
    by_cases h : i < j
    · have d1 : decide ((i : Int) < (j : Int)) = true := decide_eq_true (by omega)
      obtain ⟨hN, eh⟩ : ∃ hN : Nat, ((i : Int) + (j : Int)) / 2 = (hN : Int) := ⟨(i + j) / 2, by omega⟩
      have n1 : i ≤ hN := by omega
      have n2 : hN < j := by omega
      have n3 : (hN : Int) < (m : Int) := by omega
      have n4 : (0 : Int) ≤ (hN : Int) := Int.natCast_nonneg _
      have n5 : (p : Int) < (m : Int) := by omega
      have n6 : (0 : Int) ≤ (p : Int) := Int.natCast_nonneg _
      have hlq := unhide HQ
      obtain ⟨y, hy⟩ : ∃ y, (R1 ++ (R2 ++ Y))[hN - (p + 1)]? = some y := ⟨_, List.getElem?_eq_getElem (by simp only [List.length_append]; omega)⟩
      have hy2 : (R1 ++ R2)[hN - (p + 1)]? = some y := by
        rw [← List.append_assoc, List.getElem?_append_left (by rw [List.length_append]; omega)] at hy
        exact hy
      have hoky := unhide HOK y (List.mem_of_getElem? hy2)
      obtain ⟨c0, c1⟩ := behind X (R1 ++ (R2 ++ Y)) x y (hN - (p + 1)) hy
      rw [unhide HP] at c0 c1
      rw [show p + 1 + (hN - (p + 1)) = hN by omega] at c1
      have k0 := (unhide HK).cell c0
      have k1 := (unhide HK).cell c1
      have hcs : (hN < p + 1 + R1.length → cm y x < 0) ∧ (p + 1 + R1.length ≤ hN → ¬ cm y x < 0) := by
        constructor
        · intro hh
          rw [List.getElem?_append_left (by omega)] at hy2
          exact unhide H1 y (List.mem_of_getElem? hy2)
        · intro hh
          rw [List.getElem?_append_right (by omega)] at hy2
          have := unhide H2 y (List.mem_of_getElem? hy2)
          omega
      have HOY := hide hoky
      have HCS := hide hcs
      clear hy hy2 hoky c0 c1 hcs hlq
      by_cases hc : cm y x < 0
      · have hcd : decide (cm y x < 0) = true := decide_eq_true hc
        have hh : hN < p + 1 + R1.length := by
          by_cases g : hN < p + 1 + R1.length
          · exact g
          · exact absurd hc ((unhide HCS).2 (by omega))
        go_wp2_with fail
        go_region_held3 (fun wx => wx.cell? ⟨D, hN, none⟩ = some (.int .i64 y) ∧ wx.cell? ⟨D, p, none⟩ = some (.int .i64 x))
          (simp (maxDischargeDepth := 12) [go_sem, le1, lt1, *])
          (first
          | (go_at_call 44; refine ((unhide HH).ans _ y x ((unhide HH).keep w _ (unhide HE) (by repeat (first | exact unhide HW | refine But.drew ?_))) (unhide HOY) (unhide HOX)).mono ?_; rintro e' w' ⟨rfl, hs⟩; have hsc := hs.cell; have HSM := hide hs; clear hs))
        all_goals
          go_wp2_with fail
          go_roundw
          case rel => exact ⟨hN + 1, j, by simp, rfl, by omega, by omega, hj1, hj2, by repeat (first | exact unhide HK | refine Same.iblk (unhide HSM) ?_), by repeat (first | exact unhide HW | refine But.sm ?_ (unhide HSM) | refine But.drew ?_)⟩
          case measure => simp only [intOf]; omega
      · have hcd : decide (cm y x < 0) = false := decide_eq_false hc
        have hh : p + 1 + R1.length ≤ hN := by
          by_cases g : hN < p + 1 + R1.length
          · exact absurd ((unhide HCS).1 g) hc
          · omega
        go_wp2_with fail
        go_region_held3 (fun wx => wx.cell? ⟨D, hN, none⟩ = some (.int .i64 y) ∧ wx.cell? ⟨D, p, none⟩ = some (.int .i64 x))
          (simp (maxDischargeDepth := 12) [go_sem, le1, lt1, *])
          (first
          | (go_at_call 44; refine ((unhide HH).ans _ y x ((unhide HH).keep w _ (unhide HE) (by repeat (first | exact unhide HW | refine But.drew ?_))) (unhide HOY) (unhide HOX)).mono ?_; rintro e' w' ⟨rfl, hs⟩; have hsc := hs.cell; have HSM := hide hs; clear hs))
        all_goals
          go_wp2_with fail
          go_roundw
          case rel => exact ⟨i, hN, rfl, rfl, hi1, hi2, hh, by omega, by repeat (first | exact unhide HK | refine Same.iblk (unhide HSM) ?_), by repeat (first | exact unhide HW | refine But.sm ?_ (unhide HSM) | refine But.drew ?_)⟩
          case measure => simp only [intOf]; omega
    · have d1 : decide ((i : Int) < (j : Int)) = false := decide_eq_false (by omega)
      have ei : i = p + 1 + R1.length := by omega
      have EI := hide ei
      clear ei
      have hiq : (i : Int) ≤ 4096 := by omega
      have hi0 : (1 : Int) ≤ (i : Int) := by omega
      go_wp2_with fail
      go_loopw [13] (fun z W => ∃ (k s : Nat), z = .int .i64 (k : Int) ∧ p + s = k ∧ s ≤ R1.length ∧ iblk W D 3 (X ++ (R1.take s ++ (x :: (R1.drop s ++ (R2 ++ Y))))) ∧ But D w W) (fun z _ => i - (intOf z).toNat)
      case atStart => exact ⟨p, 0, rfl, rfl, Nat.zero_le _, by simpa using unhide HK, unhide HW⟩
      case round =>
        obtain ⟨k, s, rfl, hks, hs1, hk, hw⟩ := hrel
        have HKS := hide hks
        have HK2 := hide hk
        have HW2 := hide hw
        clear hk hw
        by_cases h2 : s < R1.length
        · have d2 : decide ((k : Int) < (i : Int) - 1) = true := decide_eq_true (by have := unhide EI; omega)
          have d3 : (k : Int) < (i : Int) - 1 := by have := unhide EI; omega
          have l1 : k + 1 < m := by have := unhide EI; omega
          obtain ⟨y, hy⟩ : ∃ y, R1[s]? = some y := ⟨_, List.getElem?_eq_getElem h2⟩
          have hdr : R1.drop s = y :: R1.drop (s + 1) := by
            rw [List.drop_eq_getElem_cons h2]
            rw [List.getElem?_eq_getElem h2] at hy
            rw [Option.some.inj hy]
          have htk : R1.take (s + 1) = R1.take s ++ [y] := by rw [List.take_add_one, hy]; rfl
          have hPl : (X ++ R1.take s).length = k := by rw [List.length_append, unhide HP, List.length_take]; omega
          have hv : iblk wr D 3 ((X ++ R1.take s) ++ (x :: y :: (R1.drop (s + 1) ++ (R2 ++ Y)))) := by
            have := unhide HK2
            rw [hdr] at this
            rw [List.append_assoc]
            exact this
          obtain ⟨c0, c1⟩ := sw_at0 (X ++ R1.take s) (R1.drop (s + 1) ++ (R2 ++ Y)) x y
          have hset := sw_set' (X ++ R1.take s) (R1.drop (s + 1) ++ (R2 ++ Y)) x y
          rw [hPl] at c0 c1 hset
          have k0 := hv.cell c0
          have k1 := hv.cell c1
          have fz : ∀ o, wr.frozen? ⟨D, o, none⟩ = false := hv.frozen
          have HV := hide hv
          have HSET := hide hset
          have HTK := hide htk
          have g1 : (k : Int) < (m : Int) := by omega
          have g2 : (k : Int) + 1 < (m : Int) := by omega
          have g3 : (0 : Int) ≤ (k : Int) := Int.natCast_nonneg _
          have g4 : (0 : Int) ≤ (k : Int) + 1 := by omega
          have g5 : ((k : Int) + 1).toNat = k + 1 := by omega
          clear hv c0 c1 hset hPl hdr htk hy hks
          go_wp2_with fail
          go_region
          all_goals
            go_wp2_with fail
            go_roundw
            case rel =>
              refine ⟨k + 1, s + 1, by simp, by have := unhide HKS; omega, h2, ?_, ?_⟩
              · have hz := ((unhide HV).set k y).set (k + 1) x
                rw [unhide HSET] at hz
                rw [unhide HTK]
                have e9 : (X ++ R1.take s) ++ (y :: x :: (R1.drop (s + 1) ++ (R2 ++ Y))) = X ++ ((R1.take s ++ [y]) ++ (x :: (R1.drop (s + 1) ++ (R2 ++ Y)))) := by simp
                rw [e9] at hz
                exact hz
              · repeat (first | exact unhide HW2 | refine But.setCell ?_ _ _ | refine But.drew ?_ | refine but_dn ?_ _)
            case measure => simp only [intOf]; omega
        · have es : s = R1.length := by omega
          have d2 : decide ((k : Int) < (i : Int) - 1) = false := decide_eq_false (by have := unhide EI; omega)
          have d3 : ¬ (k : Int) < (i : Int) - 1 := by have := unhide EI; omega
          subst es
          clear hks
          go_wp2_with fail
          refine bodyPost_ret (v := .tuple #[]) (by simp [results, Try.results62, go_sem]) rfl ⟨rfl, ?_, unhide HW2⟩
          have hz := unhide HK2
          rw [List.take_length, List.drop_length, List.nil_append] at hz
          exact hz
end Go.Proofs.Ytmoobfbjehgdnaa
