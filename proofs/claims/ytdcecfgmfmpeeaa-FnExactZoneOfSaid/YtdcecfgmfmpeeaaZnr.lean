/-
  Points that are near enough: both sides ask it alike.
-/
import Derived.Test.YtdcecfgmfmpeeaaZfn
import Derived.Test.YtdcecfgmfmpeeaaPointsP
namespace Go.Proofs.Ytdcecfgmfmpeeaa
open Go.ChangeShapes Go.WideShapes Go.ChangeAt Go.RowKit Go.Shelf
set_option linter.unusedVariables false
set_option linter.unusedSimpArgs false

def nrP (p : Pt) : Bool := decide (-200 ≤ p.1 ∧ p.1 ≤ 200 ∧ -200 ≤ p.2 ∧ p.2 ≤ 200)
theorem brP_ints (a1 a2 : Int) (w : World) :
    Calls Try.prog 51 #[.agg #[.int .i64 a1, .int .i64 a2]] w fun e w' => e = .returned (.bool (!nrP (a1, a2))) ∧ Below w.heap.size w w' := by
  have HB := hide (ba (Below.refl w.heap.size w) (.cells #[.int .i64 a1, .int .i64 a2] 30))
  have HE : Hid ((!nrP (a1, a2)) = (!(decide (-200 ≤ a1) && decide (a1 ≤ 200)) || !(decide (-200 ≤ a2) && decide (a2 ≤ 200)))) := hide (by
    unfold nrP
    rw [Bool.eq_iff_iff]
    simp
    omega)
  rw [unhide HE]
  cases h1 : (decide (-200 ≤ a1) && decide (a1 ≤ 200)) with
  | false =>
    have H1 := hide (fun X => btw_any a1 (-200) 200 X)
    rw [h1] at H1
    clear h1
    go_enter Try.func51, Try.ntmps51
    go_wp2_with fail
    refine (unhide H1 _).mono ?_
    rintro e w' ⟨rfl, hq⟩
    rw [hq]
    clear hq
    go_wp2_with fail
    go_ret
    exact ⟨rfl, unhide HB⟩
  | true =>
    have H1 := hide (fun X => btw_any a1 (-200) 200 X)
    have H2 := hide (fun X => btw_any a2 (-200) 200 X)
    rw [h1] at H1
    clear h1
    generalize (decide (-200 ≤ a2) && decide (a2 ≤ 200)) = t2 at *
    go_enter Try.func51, Try.ntmps51
    go_wp2_with fail
    refine (unhide H1 _).mono ?_
    rintro e w' ⟨rfl, hq⟩
    rw [hq]
    clear hq
    go_wp2_with fail
    refine (unhide H2 _).mono ?_
    rintro e w' ⟨rfl, hq⟩
    rw [hq]
    clear hq
    cases t2 <;>
    · go_wp2_with fail
      go_ret
      exact ⟨rfl, unhide HB⟩
theorem br_pred (w : World) : PredBelow Try.prog 51 #[] (fun x : Pt => .agg (encPt x).toArray) (fun x => !nrP x) w := fun W x hb => by
  show Calls Try.prog 51 #[.agg #[.int .i64 x.1, .int .i64 x.2]] W _
  exact (brP_ints x.1 x.2 W).mono fun e w' ⟨he, hw⟩ => ⟨he, hb.trans (hw.mono hb.size)⟩
theorem enters51 : ∀ args w, (callFunc 51 args).run Try.prog w = .ok (.enter 51 args) w := enters_of Try.func51 (by kernel_rfl) rfl
/-- the code of measured points -/
def mcC (L : List Pt) : Int := if 4096 < L.length then 2 else if 1 ≤ L.length ∧ L.length ≤ 200 ∧ L.all nrP = true then 0 else 1
theorem anyN (L : List Pt) : (L.any fun x => !nrP x) = !(L.all nrP) := by
  induction L with
  | nil => rfl
  | cons x L ih => simp only [List.any_cons, List.all_cons, ih]; cases nrP x <;> simp
set_option maxHeartbeats 1000000 in
set_option maxRecDepth 100000 in
theorem mcP_any (b cap : Nat) (L : List Pt) (w : World) (hn : L.length ≤ 4611686018427387904) (hb : b < w.heap.size) (hc : PtsAt w b 0 L) :
    Calls Try.prog 21 #[.slice (some ⟨b, 0, none⟩) L.length cap] w fun e w' => e = .returned (.int .i64 (mcC L)) ∧ Below w.heap.size w w' := by
  have hcon := AnyQ.slices_ContainsFunc Try.l50 2 Try.isAgg30 Try.sizeOf30 encPt (fun _ => rfl) (fun x => !nrP x) 51 #[] enters51 b 0 L.length cap L w (br_pred w) (Nat.le_refl _) (by omega) hb (enc_cells hc)
  change Calls Try.prog 50 _ _ _ at hcon
  rw [List.take_length, anyN] at hcon
  have HCO := hide hcon
  have HBT := hide (fun X => btw_any (L.length : Int) 1 200 X)
  unfold mcC
  clear hcon hc
  by_cases h1 : 4096 < L.length
  · rw [if_pos h1]
    have d0 : decide ((4096 : Int) < (L.length : Int)) = true := decide_eq_true (by omega)
    go_enter Try.func21, Try.ntmps21
    go_wp2_with fail
    go_ret
    exact ⟨rfl, Below.refl _ _⟩
  · rw [if_neg h1]
    have d0 : decide ((4096 : Int) < (L.length : Int)) = false := decide_eq_false (by omega)
    by_cases h2 : 1 ≤ L.length ∧ L.length ≤ 200
    · rw [show (decide ((1 : Int) ≤ (L.length : Int)) && decide ((L.length : Int) ≤ 200)) = true by simp; omega] at HBT
      cases ho : L.all nrP with
      | true =>
        rw [if_pos ⟨h2.1, h2.2, rfl⟩]
        rw [ho] at HCO
        generalize L.length = N at *
        go_enter Try.func21, Try.ntmps21
        go_wp2_with fail
        refine (unhide HBT _).mono ?_
        rintro e w' ⟨rfl, hq⟩
        rw [hq]
        clear hq
        go_wp2_with fail
        refine (unhide HCO).mono ?_
        rintro e w' ⟨rfl, hb'⟩
        have HB := hide hb'
        clear hb'
        go_wp2_with fail
        go_ret
        exact ⟨rfl, unhide HB⟩
      | false =>
        rw [if_neg (by simp)]
        rw [ho] at HCO
        generalize L.length = N at *
        go_enter Try.func21, Try.ntmps21
        go_wp2_with fail
        refine (unhide HBT _).mono ?_
        rintro e w' ⟨rfl, hq⟩
        rw [hq]
        clear hq
        go_wp2_with fail
        refine (unhide HCO).mono ?_
        rintro e w' ⟨rfl, hb'⟩
        have HB := hide hb'
        clear hb'
        go_wp2_with fail
        go_ret
        exact ⟨rfl, unhide HB⟩
    · rw [if_neg (by omega)]
      rw [show (decide ((1 : Int) ≤ (L.length : Int)) && decide ((L.length : Int) ≤ 200)) = false by rw [Bool.and_eq_false_iff, decide_eq_false_iff_not, decide_eq_false_iff_not]; omega] at HBT
      go_enter Try.func21, Try.ntmps21
      go_wp2_with fail
      refine (unhide HBT _).mono ?_
      rintro e w' ⟨rfl, hq⟩
      rw [hq]
      clear hq
      go_wp2_with fail
      go_ret
      exact ⟨rfl, Below.refl _ _⟩
/-- the model's absolute value, as it wraps -/
def abW (x : Int) : Int := if x < 0 then IntKind.i64.wrap (-x) else x
theorem abM_any (x : Int) (w : World) : Calls Try.prog 57 #[.int .i64 x] w fun e w' => e = .returned (.int .i64 (abW x)) ∧ w' = w := by
  unfold abW
  by_cases h : x < 0
  · rw [if_pos h]
    have d := decide_eq_true h
    generalize hq : IntKind.i64.wrap (-x) = q at *
    have hq2 : IntKind.i64.wrap (0 - x) = q := by rw [← hq]; congr 1; omega
    go_enter Try.func57, Try.ntmps57
    go_wp2_with fail
    go_ret
    exact ⟨by first | rfl | (simp [hq, hq2]), rfl⟩
  · rw [if_neg h]
    have d := decide_eq_false h
    go_enter Try.func57, Try.ntmps57
    go_wp2_with fail
    go_ret
    exact ⟨rfl, rfl⟩
theorem ab_far (x : Int) : (200 < abW x ∨ x < -200) ↔ ¬ (-200 ≤ x ∧ x ≤ 200) := by
  unfold abW
  by_cases h : x < 0
  · rw [if_pos h]
    by_cases h2 : x < -200
    · constructor
      · intro _; omega
      · intro _; exact .inr h2
    · have : IntKind.i64.wrap (-x) = -x := wr64 (by omega) (by omega)
      rw [this]
      omega
  · rw [if_neg h]
    omega
theorem nr_iff (x y : Int) : nrP (x, y) = true ↔ (¬ 200 < abW x ∧ ¬ 200 < abW y ∧ ¬ x < -200 ∧ ¬ y < -200) := by
  have h1 := ab_far x
  have h2 := ab_far y
  unfold nrP
  rw [decide_eq_true_iff]
  simp only
  constructor
  · rintro ⟨a1, a2, a3, a4⟩
    exact ⟨fun h => h1.1 (.inl h) ⟨a1, a2⟩, fun h => h2.1 (.inl h) ⟨a3, a4⟩, fun h => h1.1 (.inr h) ⟨a1, a2⟩, fun h => h2.1 (.inr h) ⟨a3, a4⟩⟩
  · rintro ⟨b1, b2, b3, b4⟩
    have c1 : -200 ≤ x ∧ x ≤ 200 := Classical.byContradiction (fun hn => (h1.2 hn).elim b1 b3)
    have c2 : -200 ≤ y ∧ y ≤ 200 := Classical.byContradiction (fun hn => (h2.2 hn).elim b2 b4)
    exact ⟨c1.1, c1.2, c2.1, c2.2⟩
set_option maxHeartbeats 2000000 in
set_option maxRecDepth 100000 in
theorem nrM_any (b cap n : Nat) (L : List Pt) (w : World) (HL : Hid (L.length = n)) (hn : n ≤ 4611686018427387904) (HI : Hid (IntsAt w b 0 (flat2 L))) :
    Calls Try.prog 27 #[.slice (some ⟨b, 0, none⟩) n cap] w fun e w' => e = .returned (.bool (decide (1 ≤ n ∧ n ≤ 200) && L.all nrP)) ∧ Same w w' := by
  by_cases h1 : n < 1
  · have d1 : decide ((n : Int) < 1) = true := decide_eq_true (by omega)
    have e1 : decide (1 ≤ n ∧ n ≤ 200) = false := decide_eq_false (by omega)
    rw [e1]
    go_enter Try.func27, Try.ntmps27
    go_wp2_with fail
    go_ret
    exact ⟨rfl, Same.refl _⟩
  · have d1 : decide ((n : Int) < 1) = false := decide_eq_false (by omega)
    by_cases h2 : 200 < n
    · have d2 : decide ((200 : Int) < (n : Int)) = true := decide_eq_true (by omega)
      have e1 : decide (1 ≤ n ∧ n ≤ 200) = false := decide_eq_false (by omega)
      rw [e1]
      go_enter Try.func27, Try.ntmps27
      go_wp2_with fail
      go_ret
      exact ⟨rfl, Same.refl _⟩
    · have d2 : decide ((200 : Int) < (n : Int)) = false := decide_eq_false (by omega)
      have e1 : decide (1 ≤ n ∧ n ≤ 200) = true := decide_eq_true (by omega)
      rw [e1, Bool.true_and]
      go_enter Try.func27, Try.ntmps27
      go_wp2_with fail
      go_loopw [3] (fun z X => ∃ i : Nat, z = .int .i64 (i : Int) ∧ i ≤ n ∧ (∀ j p, j < i → L[j]? = some p → nrP p = true) ∧ Same w X) (fun z _ => n - (intOf z).toNat)
      case atStart => exact ⟨0, rfl, Nat.zero_le _, fun j p h => by omega, Same.refl _⟩
      case round =>
        obtain ⟨i, rfl, hi, hall, hs⟩ := hrel
        have HA := hide hall
        have HS := hide hs
        by_cases h : i < n
        · have i1 : (i : Int) < (n : Int) := by omega
          have i0 : (0 : Int) ≤ (i : Int) := Int.natCast_nonneg _
          have iz : decide ((i : Int) < (n : Int)) = true := decide_eq_true i1
          obtain ⟨⟨x, y⟩, hx⟩ : ∃ q, L[i]? = some q := ⟨_, List.getElem?_eq_getElem (by rw [unhide HL]; omega)⟩
          obtain ⟨c0, c1⟩ := pts_at (unhide HI) hx
          rw [← hs.cell] at c0 c1
          have HX := hide hx
          have HAX := hide (fun X => abM_any x X)
          have HAY := hide (fun X => abM_any y X)
          have HNO : Hid (nrP (x, y) = false → L.all nrP = false) := hide (fun h0 => by
            rw [List.all_eq_false]
            exact ⟨(x, y), List.mem_of_getElem? hx, by rw [h0]; simp⟩)
          have HIF := hide (nr_iff x y)
          generalize abW x = ax at *
          generalize abW y = ay at *
          clear hall hs hx
          by_cases g1 : 200 < ax
          · have t1 := decide_eq_true g1
            have HR : Hid (L.all nrP = false) := hide (unhide HNO (Bool.eq_false_iff.2 (fun e => ((unhide HIF).1 e).1 g1)))
            go_wp2_with fail
            refine (unhide HAX _).mono ?_
            rintro e w' ⟨rfl, hq⟩
            rw [hq]
            clear hq
            go_wp2_with fail
            go_ret
            exact ⟨ret_bool (unhide HR).symm, unhide HS⟩
          · have t1 := decide_eq_false g1
            by_cases g2 : 200 < ay
            · have t2 := decide_eq_true g2
              have HR : Hid (L.all nrP = false) := hide (unhide HNO (Bool.eq_false_iff.2 (fun e => ((unhide HIF).1 e).2.1 g2)))
              go_wp2_with fail
              refine (unhide HAX _).mono ?_
              rintro e w' ⟨rfl, hq⟩
              rw [hq]
              clear hq
              go_wp2_with fail
              refine (unhide HAY _).mono ?_
              rintro e w' ⟨rfl, hq⟩
              rw [hq]
              clear hq
              go_wp2_with fail
              go_ret
              exact ⟨ret_bool (unhide HR).symm, unhide HS⟩
            · have t2 := decide_eq_false g2
              by_cases g3 : x < -200
              · have t3 := decide_eq_true g3
                have HR : Hid (L.all nrP = false) := hide (unhide HNO (Bool.eq_false_iff.2 (fun e => ((unhide HIF).1 e).2.2.1 g3)))
                go_wp2_with fail
                refine (unhide HAX _).mono ?_
                rintro e w' ⟨rfl, hq⟩
                rw [hq]
                clear hq
                go_wp2_with fail
                refine (unhide HAY _).mono ?_
                rintro e w' ⟨rfl, hq⟩
                rw [hq]
                clear hq
                go_wp2_with fail
                go_ret
                exact ⟨ret_bool (unhide HR).symm, unhide HS⟩
              · have t3 := decide_eq_false g3
                by_cases g4 : y < -200
                · have t4 := decide_eq_true g4
                  have HR : Hid (L.all nrP = false) := hide (unhide HNO (Bool.eq_false_iff.2 (fun e => ((unhide HIF).1 e).2.2.2 g4)))
                  go_wp2_with fail
                  refine (unhide HAX _).mono ?_
                  rintro e w' ⟨rfl, hq⟩
                  rw [hq]
                  clear hq
                  go_wp2_with fail
                  refine (unhide HAY _).mono ?_
                  rintro e w' ⟨rfl, hq⟩
                  rw [hq]
                  clear hq
                  go_wp2_with fail
                  go_ret
                  exact ⟨ret_bool (unhide HR).symm, unhide HS⟩
                · have t4 := decide_eq_false g4
                  have HOK : Hid (nrP (x, y) = true) := hide ((unhide HIF).2 ⟨g1, g2, g3, g4⟩)
                  go_wp2_with fail
                  refine (unhide HAX _).mono ?_
                  rintro e w' ⟨rfl, hq⟩
                  rw [hq]
                  clear hq
                  go_wp2_with fail
                  refine (unhide HAY _).mono ?_
                  rintro e w' ⟨rfl, hq⟩
                  rw [hq]
                  clear hq
                  go_wp2_with fail
                  go_roundw
                  case rel =>
                    refine ⟨i + 1, by simp, h, fun j p hj hp => ?_, unhide HS⟩
                    by_cases e : j = i
                    · subst e
                      rw [unhide HX] at hp
                      cases hp
                      exact unhide HOK
                    · exact unhide HA j p (by omega) hp
                  case measure => simp only [intOf]; omega
        · have iz : decide ((i : Int) < (n : Int)) = false := decide_eq_false (by omega)
          have HR : Hid (L.all nrP = true) := hide (by
            rw [List.all_eq_true]
            intro p hp
            obtain ⟨j, hj, rfl⟩ := List.getElem_of_mem hp
            exact hall j _ (by rw [unhide HL] at hj; omega) (List.getElem?_eq_getElem hj))
          clear hall hs
          go_wp2_with fail
          go_ret
          exact ⟨ret_bool (unhide HR).symm, unhide HS⟩
end Go.Proofs.Ytdcecfgmfmpeeaa
