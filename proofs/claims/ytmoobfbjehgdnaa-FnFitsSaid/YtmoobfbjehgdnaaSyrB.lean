/-
  symMerge where the right stretch is one element.
-/
import Derived.Test.YtmoobfbjehgdnaaSymMathB
import Derived.BigRegion
namespace Go.Proofs.Ytmoobfbjehgdnaa
open Go.ChangeShapes Go.WideShapes Go.ChangeAt Go.RowKit
set_option linter.unusedVariables false
set_option linter.unusedSimpArgs false

theorem ahead (X T Y : List Int) (x y : Int) (k : Nat) (h : T[k]? = some y) : (X ++ (T ++ (x :: Y)))[X.length + T.length]? = some x ∧ (X ++ (T ++ (x :: Y)))[X.length + k]? = some y := by
  have hk : k < T.length := (List.getElem?_eq_some_iff.1 h).1
  constructor
  · rw [List.getElem?_append_right (by omega), show X.length + T.length - X.length = T.length by omega, List.getElem?_append_right (Nat.le_refl _), Nat.sub_self]; rfl
  · rw [List.getElem?_append_right (by omega), show X.length + k - X.length = k by omega, List.getElem?_append_left hk]; exact h

set_option maxHeartbeats 1000000 in
set_option maxRecDepth 100000 in
theorem syr_any (D m : Nat) (c : Value) (cm : Int → Int → Int) (ok : Int → Prop) (Env : World → Prop) (H : Cmp c D cm ok Env) (X L1 L2 Y : List Int) (x : Int) (w : World) (hm : m ≤ 4096) (hl : X.length + L1.length + L2.length + 1 + Y.length = m) (hn : 2 ≤ L1.length + L2.length)
    (hokx : ok x) (hok : ∀ y ∈ L1 ++ L2, ok y) (h1 : ∀ y ∈ L1, ¬ cm x y < 0) (h2 : ∀ y ∈ L2, cm x y < 0) (he : Env w) (hb : iblk w D 3 (X ++ ((L1 ++ L2) ++ (x :: Y)))) :
    Calls Try.prog 62 #[.slice (some ⟨D, 0, none⟩) m m, .int .i64 (X.length : Int), .int .i64 ((X.length + L1.length + L2.length : Nat) : Int), .int .i64 (((X.length + L1.length + L2.length : Nat) : Int) + 1), .func (.func 44) #[] #[c]] w fun e w' => e = .returned (.tuple #[]) ∧ iblk w' D 3 (X ++ (L1 ++ (x :: (L2 ++ Y)))) ∧ But D w w' := by
  have HI := hide hb
  have HE := hide he
  have HH := hide H
  have EG := H.enters
  generalize hp : X.length = p at *
  generalize hq : p + L1.length + L2.length = q
  have q1 : p + 2 ≤ q := by omega
  have q2 : q + 1 ≤ m := by omega
  have q3 : (p : Int) ≤ 4096 := by omega
  have q4 : (q : Int) ≤ 4096 := by omega
  have HP := hide hp
  have HQ := hide hq
  have HL := hide hl
  have HOX := hide hokx
  have HOK := hide hok
  have H1 := hide h1
  have H2 := hide h2
  have e1 : ((q : Int) - (p : Int) == 1) = false := by rw [beq_eq_false_iff_ne]; omega
  have e2 : IntKind.i64.wrap ((q : Int) + 1 - (q : Int)) = 1 := by rw [show (q : Int) + 1 - (q : Int) = 1 by omega]; rfl
  have e4 : ((q : Int) + 1 - (q : Int) == 1) = true := by rw [beq_iff_eq]; omega
  clear hb he H hp hq hl hokx hok h1 h2 hn
  go_enter Try.func62, Try.ntmps62
  go_wp2_with fail
  go_loopw [14, 15] (fun z y W => ∃ (i j : Nat), z = .int .i64 (i : Int) ∧ y = .int .i64 (j : Int) ∧ p ≤ i ∧ i ≤ p + L1.length ∧ p + L1.length ≤ j ∧ j ≤ q ∧ iblk W D 3 (X ++ ((L1 ++ L2) ++ (x :: Y))) ∧ But D w W) (fun z y _ => (intOf y).toNat - (intOf z).toNat)
  case atStart => exact ⟨p, q, rfl, rfl, Nat.le_refl _, by omega, by have := unhide HQ; omega, Nat.le_refl _, unhide HI, But.refl _ _⟩
  case round =>
    obtain ⟨i, j, rfl, rfl, hi1, hi2, hj1, hj2, hk, hw⟩ := hrel
    have HW := hide hw
    have HK := hide hk
    clear hw hk HI
    by_cases h : i < j
    · have d1 : decide ((i : Int) < (j : Int)) = true := decide_eq_true (by omega)
      obtain ⟨hN, eh⟩ : ∃ hN : Nat, ((i : Int) + (j : Int)) / 2 = (hN : Int) := ⟨(i + j) / 2, by omega⟩
      have n1 : i ≤ hN := by omega
      have n2 : hN < j := by omega
      have n3 : (hN : Int) < (m : Int) := by omega
      have n4 : (0 : Int) ≤ (hN : Int) := Int.natCast_nonneg _
      have n5 : (q : Int) < (m : Int) := by omega
      have n6 : (0 : Int) ≤ (q : Int) := Int.natCast_nonneg _
      have hlq := unhide HQ
      obtain ⟨y, hy⟩ : ∃ y, (L1 ++ L2)[hN - p]? = some y := ⟨_, List.getElem?_eq_getElem (by simp only [List.length_append]; omega)⟩
      have hoky := unhide HOK y (List.mem_of_getElem? hy)
      obtain ⟨c0, c1⟩ := ahead X (L1 ++ L2) Y x y (hN - p) hy
      rw [unhide HP] at c0 c1
      rw [List.length_append, show p + (L1.length + L2.length) = q by omega] at c0
      rw [show p + (hN - p) = hN by omega] at c1
      have k0 := (unhide HK).cell c0
      have k1 := (unhide HK).cell c1
      have hcs : (hN < p + L1.length → ¬ cm x y < 0) ∧ (p + L1.length ≤ hN → cm x y < 0) := by
        constructor
        · intro hh
          rw [List.getElem?_append_left (by omega)] at hy
          have := unhide H1 y (List.mem_of_getElem? hy)
          omega
        · intro hh
          rw [List.getElem?_append_right (by omega)] at hy
          exact unhide H2 y (List.mem_of_getElem? hy)
      have HOY := hide hoky
      have HCS := hide hcs
      clear hy hoky c0 c1 hcs hlq
      by_cases hc : cm x y < 0
      · have hcd : decide (cm x y < 0) = true := decide_eq_true hc
        have hh : p + L1.length ≤ hN := by
          by_cases g : hN < p + L1.length
          · exact absurd hc ((unhide HCS).1 g)
          · omega
        go_wp2_with fail
        go_region_held3 (fun wx => wx.cell? ⟨D, hN, none⟩ = some (.int .i64 y) ∧ wx.cell? ⟨D, q, none⟩ = some (.int .i64 x))
          (simp (maxDischargeDepth := 12) [go_sem, le1, lt1, *])
          (first
          | (go_at_call 44; refine ((unhide HH).ans _ x y ((unhide HH).keep w _ (unhide HE) (by repeat (first | exact unhide HW | refine But.drew ?_))) (unhide HOX) (unhide HOY)).mono ?_; rintro e' w' ⟨rfl, hs⟩; have hsc := hs.cell; have HSM := hide hs; clear hs))
        all_goals
          go_wp2_with fail
          go_roundw
          case rel => exact ⟨i, hN, rfl, rfl, hi1, hi2, hh, by omega, by repeat (first | exact unhide HK | refine Same.iblk (unhide HSM) ?_), by repeat (first | exact unhide HW | refine But.sm ?_ (unhide HSM) | refine But.drew ?_)⟩
          case measure => simp only [intOf]; omega
      · have hcd : decide (cm x y < 0) = false := decide_eq_false hc
        have hh : hN < p + L1.length := by
          by_cases g : hN < p + L1.length
          · exact g
          · exact absurd ((unhide HCS).2 (by omega)) hc
        go_wp2_with fail
        go_region_held3 (fun wx => wx.cell? ⟨D, hN, none⟩ = some (.int .i64 y) ∧ wx.cell? ⟨D, q, none⟩ = some (.int .i64 x))
          (simp (maxDischargeDepth := 12) [go_sem, le1, lt1, *])
          (first
          | (go_at_call 44; refine ((unhide HH).ans _ x y ((unhide HH).keep w _ (unhide HE) (by repeat (first | exact unhide HW | refine But.drew ?_))) (unhide HOX) (unhide HOY)).mono ?_; rintro e' w' ⟨rfl, hs⟩; have hsc := hs.cell; have HSM := hide hs; clear hs))
        all_goals
          go_wp2_with fail
          go_roundw
          case rel => exact ⟨hN + 1, j, by simp, rfl, by omega, by omega, hj1, hj2, by repeat (first | exact unhide HK | refine Same.iblk (unhide HSM) ?_), by repeat (first | exact unhide HW | refine But.sm ?_ (unhide HSM) | refine But.drew ?_)⟩
          case measure => simp only [intOf]; omega
    · have d1 : decide ((i : Int) < (j : Int)) = false := decide_eq_false (by omega)
      have ei : i = p + L1.length := by omega
      have EI := hide ei
      clear ei
      have hiq : (i : Int) ≤ 4096 := by omega
      go_wp2_with fail
      go_loopw [17] (fun z W => ∃ (k : Nat) (M1 M2 : List Int), z = .int .i64 (k : Int) ∧ L2 = M1 ++ M2 ∧ p + L1.length + M1.length = k ∧ iblk W D 3 (X ++ ((L1 ++ M1) ++ (x :: (M2 ++ Y)))) ∧ But D w W) (fun z _ => (intOf z).toNat)
      case atStart => exact ⟨q, L2, [], rfl, by simp, unhide HQ, by simpa using unhide HK, unhide HW⟩
      case round =>
        obtain ⟨k, M1, M2, rfl, hM, hkM, hk, hw⟩ := hrel
        have HM := hide hM
        have HKM := hide hkM
        have HK2 := hide hk
        have HW2 := hide hw
        have hkq : k ≤ q := by have h1 := unhide HQ; have h2 : L2.length = M1.length + M2.length := by rw [hM, List.length_append]
                               omega
        clear hM hk hw
        rcases List.eq_nil_or_concat M1 with hnil | ⟨M0, y, hcon⟩
        · subst hnil
          have d2 : decide ((i : Int) < (k : Int)) = false := decide_eq_false (by have := unhide EI; simp at hkM; omega)
          have d3 : ¬ (i : Int) < (k : Int) := by have := unhide EI; simp at hkM; omega
          clear hkM
          go_wp2_with fail
          refine bodyPost_ret (v := .tuple #[]) (by simp [results, Try.results62, go_sem]) rfl ⟨rfl, ?_, unhide HW2⟩
          have hz := unhide HK2
          have hM := unhide HM
          rw [List.nil_append] at hM
          rw [List.append_nil, ← hM] at hz
          exact hz
        · rw [List.concat_eq_append] at hcon
          subst hcon
          obtain ⟨kn, rfl⟩ : ∃ kn, k = kn + 1 := ⟨k - 1, by simp at hkM; omega⟩
          have hkn : p + L1.length + M0.length = kn := by simp at hkM; omega
          have d2 : decide ((i : Int) < (kn : Int) + 1) = true := decide_eq_true (by have := unhide EI; omega)
          have d3 : (i : Int) < (kn : Int) + 1 := by have := unhide EI; omega
          have l1 : kn + 1 < m := by omega
          have hPl : (X ++ (L1 ++ M0)).length = kn := by rw [List.length_append, unhide HP, List.length_append]; omega
          have hv : iblk wr D 3 ((X ++ (L1 ++ M0)) ++ (y :: x :: (M2 ++ Y))) := by
            have := unhide HK2
            have e9 : X ++ ((L1 ++ (M0 ++ [y])) ++ (x :: (M2 ++ Y))) = (X ++ (L1 ++ M0)) ++ (y :: x :: (M2 ++ Y)) := by simp
            rw [e9] at this
            exact this
          obtain ⟨c0, c1⟩ := sw_at0 (X ++ (L1 ++ M0)) (M2 ++ Y) y x
          have hset := sw_set (X ++ (L1 ++ M0)) (M2 ++ Y) y x
          rw [hPl] at c0 c1 hset
          have k0 := hv.cell c0
          have k1 := hv.cell c1
          have fz : ∀ o, wr.frozen? ⟨D, o, none⟩ = false := hv.frozen
          have HV := hide hv
          have HSET := hide hset
          have HKN := hide hkn
          have g1 : (kn : Int) < (m : Int) := by omega
          have g2 : (kn : Int) + 1 < (m : Int) := by omega
          have g3 : (0 : Int) ≤ (kn : Int) := Int.natCast_nonneg _
          have g4 : (0 : Int) ≤ (kn : Int) + 1 := by omega
          have g5 : ((kn : Int) + 1).toNat = kn + 1 := by omega
          have g6 : (kn : Int).toNat = kn := by omega
          have g7 : IntKind.i64.wrap (kn : Int) = (kn : Int) := by rw [IntKind.wrap_i64]; omega
          rw [show (((kn + 1 : Nat)) : Int) = (kn : Int) + 1 by omega]
          clear hv c0 c1 hset hPl hkM hkn
          go_wp2_with fail
          go_region
          all_goals
            go_wp2_with fail
            go_roundw
            case rel =>
              refine ⟨kn, M0, y :: M2, by simp, by rw [unhide HM]; simp, unhide HKN, ?_, ?_⟩
              · have hz := ((unhide HV).set (kn + 1) y).set kn x
                rw [unhide HSET] at hz
                have e9 : (X ++ (L1 ++ M0)) ++ (x :: y :: (M2 ++ Y)) = X ++ ((L1 ++ M0) ++ (x :: ((y :: M2) ++ Y))) := by simp
                rw [e9] at hz
                exact hz
              · repeat (first | exact unhide HW2 | refine But.setCell ?_ _ _ | refine But.drew ?_ | refine but_dn ?_ _)
            case measure => simp only [intOf]; omega
end Go.Proofs.Ytmoobfbjehgdnaa
