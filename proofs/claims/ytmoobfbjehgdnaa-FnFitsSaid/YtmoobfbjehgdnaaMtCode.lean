/-
  The code of holes and shafts, of both sides.
-/
import Derived.Test.YtmoobfbjehgdnaaMtMath
namespace Go.Proofs.Ytmoobfbjehgdnaa
open Go.ChangeShapes Go.WideShapes Go.ChangeAt Go.RowKit
set_option linter.unusedVariables false
set_option linter.unusedSimpArgs false

theorem l07_any (x : Int) (w : World) : Calls Try.prog 40 #[.int .i64 x] w fun e w' => e = .returned (.bool (szB x)) ∧ w' = w := by
  by_cases h0 : 0 ≤ x
  · have t0 : decide (0 ≤ x) = true := decide_eq_true h0
    by_cases h1 : x ≤ 100000
    · have t1 : decide (x ≤ 100000) = true := decide_eq_true h1
      rw [show szB x = true from decide_eq_true ⟨h0, h1⟩]
      go_enter Try.func40, Try.ntmps40
      go_wp2
      go_ret
      exact ⟨rfl, rfl⟩
    · have t1 : decide (x ≤ 100000) = false := decide_eq_false h1
      rw [show szB x = false from decide_eq_false (fun h => h1 h.2)]
      go_enter Try.func40, Try.ntmps40
      go_wp2
      go_ret
      exact ⟨rfl, rfl⟩
  · have t0 : decide (0 ≤ x) = false := decide_eq_false h0
    rw [show szB x = false from decide_eq_false (fun h => h0 h.1)]
    go_enter Try.func40, Try.ntmps40
    go_wp2
    go_ret
    exact ⟨rfl, rfl⟩
def sizesB (L : List Int) : Bool := decide (L.length ≤ 200) && !badS L
theorem sizes_any (u : Option Addr) (p po n cu : Nat) (L : List Int) (w : World) (hl : L.length = n) (hn : n ≤ 1048576) (hu : Its w u p po L) :
    Calls Try.prog 30 #[.slice u n cu] w fun e w' => e = .returned (.bool (sizesB L)) ∧ w' = w := by
  have HU := hide hu
  have HL := hide hl
  have n0 : (0 : Int) ≤ (n : Int) := Int.natCast_nonneg _
  by_cases h2 : 200 < n
  · have d : decide ((200 : Int) < (n : Int)) = true := decide_eq_true (by omega)
    rw [show sizesB L = false by unfold sizesB; rw [decide_eq_false (by omega)]; rfl]
    clear hu hl
    go_enter Try.func30, Try.ntmps30
    go_wp2_with fail
    go_ret
    exact ⟨rfl, rfl⟩
  · have d : decide ((200 : Int) < (n : Int)) = false := decide_eq_false (by omega)
    have HSB : Hid (sizesB L = !badS L) := hide (by unfold sizesB; rw [decide_eq_true (by omega)]; simp)
    clear hu hl
    go_enter Try.func30, Try.ntmps30
    go_wp2
    go_loopw [3] (fun z W => ∃ i : Nat, z = .int .i64 (i : Int) ∧ i ≤ n ∧ (∀ l ∈ L.take i, szB l = true) ∧ W = w) (fun z _ => n - (intOf z).toNat)
    case atStart => exact ⟨0, rfl, Nat.zero_le _, by simp, rfl⟩
    case round =>
      obtain ⟨i, rfl, hi, hall, hWe⟩ := hrel
      have hWf := hWe.symm
      subst hWf
      have HA := hide hall
      clear hall
      by_cases h : i < n
      · have i1 : (i : Int) < (n : Int) := by omega
        have i0 : (0 : Int) ≤ (i : Int) := Int.natCast_nonneg _
        have iz : decide ((i : Int) < (n : Int)) = true := decide_eq_true i1
        obtain ⟨x, hx⟩ := get_some (unhide HL) h
        obtain ⟨rfl, pw, k0⟩ := (unhide HU).at hx
        have HX := hide hx
        have HN := hide (fun W => l07_any x W)
        clear pw hx
        by_cases q : szB x = true
        · rw [q] at HN
          go_wp2_with fail
          refine (unhide HN _).mono ?_
          rintro e W1 ⟨rfl, hW1⟩
          have hW1' := hW1.symm
          subst hW1'
          go_wp2_with fail
          go_roundw
          case rel => exact ⟨i + 1, by simp, h, (take_succ_mem (unhide HX) (fun l => szB l = true)).2 ⟨unhide HA, q⟩, by first | rfl | trivial⟩
          case measure => simp only [intOf]; omega
        · have q' : szB x = false := by simpa using q
          rw [q'] at HN
          have hb : badS L = true := by
            unfold badS
            rw [List.any_eq_true]
            exact ⟨_, List.mem_of_getElem? (unhide HX), by rw [q']; rfl⟩
          have HSB2 : Hid (sizesB L = false) := hide (by rw [unhide HSB, hb]; rfl)
          clear hb
          go_wp2_with fail
          refine (unhide HN _).mono ?_
          rintro e W1 ⟨rfl, hW1⟩
          have hW1' := hW1.symm
          subst hW1'
          go_wp2_with fail
          go_ret
          exact ⟨by rw [unhide HSB2]; rfl, rfl⟩
      · have i1 : ¬ (i : Int) < (n : Int) := by omega
        have iz : decide ((i : Int) < (n : Int)) = false := decide_eq_false i1
        have hb : badS L = false := by
          unfold badS
          rw [List.any_eq_false]
          intro l hl
          have h1 := unhide HA
          rw [List.take_of_length_le (by rw [unhide HL]; omega)] at h1
          simp [h1 l hl]
        have HSB2 : Hid (sizesB L = true) := hide (by rw [unhide HSB, hb]; rfl)
        clear hb
        go_wp2_with fail
        go_ret
        exact ⟨by rw [unhide HSB2]; rfl, rfl⟩

set_option maxHeartbeats 1000000 in
/-- the model's -/
theorem codeM_any (u v : Option Addr) (p po n cu q qo m cv : Nat) (H S : List Int) (lo hi : Int) (w : World) (hl : H.length = n) (hm : S.length = m) (hn : n ≤ 1048576) (hm2 : m ≤ 1048576) (hu : Its w u p po H) (hv : Its w v q qo S) :
    Calls Try.prog 20 #[.slice u n cu, .slice v m cv, .int .i64 lo, .int .i64 hi] w fun e w' => e = .returned (.int .i64 (mtC H S lo hi)) ∧ w' = w := by
  have HA := hide (fun (W : World) (hW : W = w) => sizes_any u p po n cu H W hl hn (by rw [hW]; exact hu))
  have HB := hide (fun (W : World) (hW : W = w) => sizes_any v q qo m cv S W hm hm2 (by rw [hW]; exact hv))
  have n0 : (0 : Int) ≤ (n : Int) := Int.natCast_nonneg _
  have m0 : (0 : Int) ≤ (m : Int) := Int.natCast_nonneg _
  clear hu hv
  by_cases h1 : 4096 < n
  · have d : decide ((4096 : Int) < (n : Int)) = true := decide_eq_true (by omega)
    rw [show mtC H S lo hi = 2 by unfold mtC; rw [if_pos (by omega)]]
    go_enter Try.func20, Try.ntmps20
    go_wp2_with fail
    go_ret
    exact ⟨rfl, rfl⟩
  have d1 : decide ((4096 : Int) < (n : Int)) = false := decide_eq_false (by omega)
  by_cases h2 : 4096 < m
  · have d : decide ((4096 : Int) < (m : Int)) = true := decide_eq_true (by omega)
    rw [show mtC H S lo hi = 2 by unfold mtC; rw [if_pos (by omega)]]
    go_enter Try.func20, Try.ntmps20
    go_wp2_with fail
    go_ret
    exact ⟨rfl, rfl⟩
  have d2 : decide ((4096 : Int) < (m : Int)) = false := decide_eq_false (by omega)
  have hC : mtC H S lo hi = if sizesB H = true ∧ sizesB S = true ∧ -100000 ≤ lo ∧ lo ≤ hi ∧ hi ≤ 100000 then 0 else 1 := by
    unfold mtC sizesB
    rw [if_neg (by omega)]
    congr 1
    simp only [Bool.and_eq_true, decide_eq_true_eq, Bool.not_eq_true', eq_iff_iff]
    constructor
    · rintro ⟨a, b, c, d, e⟩; exact ⟨⟨a, c⟩, ⟨b, d⟩, e⟩
    · rintro ⟨⟨a, c⟩, ⟨b, d⟩, e⟩; exact ⟨a, b, c, d, e⟩
  rw [hC]
  clear hC
  generalize sizesB H = bh at *
  generalize sizesB S = bs at *
  cases bh
  · rw [if_neg (by simp)]
    go_enter Try.func20, Try.ntmps20
    go_wp2_with fail
    refine (unhide HA _ rfl).mono ?_
    rintro e W1 ⟨rfl, hW1⟩
    have hW1' := hW1.symm
    subst hW1'
    go_wp2_with fail
    go_ret
    exact ⟨rfl, rfl⟩
  cases bs
  · rw [if_neg (by simp)]
    go_enter Try.func20, Try.ntmps20
    go_wp2_with fail
    refine (unhide HA _ rfl).mono ?_
    rintro e W1 ⟨rfl, hW1⟩
    have hW1' := hW1.symm
    subst hW1'
    go_wp2_with fail
    refine (unhide HB _ rfl).mono ?_
    rintro e W1 ⟨rfl, hW1⟩
    have hW1' := hW1.symm
    subst hW1'
    go_wp2_with fail
    go_ret
    exact ⟨rfl, rfl⟩
  have fin : ∀ (t1 t2 t3 t4 t5 : Bool), decide (lo < -100000) = t1 → decide (100000 < lo) = t2 → decide (hi < -100000) = t3 → decide (100000 < hi) = t4 → decide (hi < lo) = t5 →
      (if true = true ∧ true = true ∧ -100000 ≤ lo ∧ lo ≤ hi ∧ hi ≤ 100000 then (0 : Int) else 1) = (if (t1 || t2 || t3 || t4 || t5) = true then 1 else 0) := by
    rintro t1 t2 t3 t4 t5 rfl rfl rfl rfl rfl
    by_cases g : -100000 ≤ lo ∧ lo ≤ hi ∧ hi ≤ 100000
    · rw [if_pos ⟨rfl, rfl, g⟩, if_neg (by simp; omega)]
    · rw [if_neg (fun h => g h.2.2), if_pos (by simp; omega)]
  cases e1 : decide (lo < -100000) <;> cases e2 : decide (100000 < lo) <;> cases e3 : decide (hi < -100000) <;> cases e4 : decide (100000 < hi) <;> cases e5 : decide (hi < lo) <;>
  ( rw [fin _ _ _ _ _ e1 e2 e3 e4 e5]
    clear fin
    go_enter Try.func20, Try.ntmps20
    go_wp2_with fail
    refine (unhide HA _ rfl).mono ?_
    rintro e W1 ⟨rfl, hW1⟩
    have hW1' := hW1.symm
    subst hW1'
    go_wp2_with fail
    refine (unhide HB _ rfl).mono ?_
    rintro e W1 ⟨rfl, hW1⟩
    have hW1' := hW1.symm
    subst hW1'
    go_wp2_with fail
    go_ret
    exact ⟨rfl, rfl⟩)

set_option maxHeartbeats 2000000 in
/-- the program's -/
theorem codeP_any (u v : Option Addr) (p po n cu q qo m cv : Nat) (H S : List Int) (lo hi : Int) (w : World) (hl : H.length = n) (hm : S.length = m) (hn : n ≤ 1048576) (hm2 : m ≤ 1048576) (hu : Its w u p po H) (hv : Its w v q qo S) :
    Calls Try.prog 21 #[.agg #[.slice u n cu, .slice v m cv, .int .i64 lo, .int .i64 hi]] w fun e w' => e = .returned (.int .i64 (mtC H S lo hi)) ∧ Below w.heap.size w w' := by
  have HA := hide (fun (W : World) (hW : Below w.heap.size w W) => shas_any u p po n cu H W hl hn (hu.bel hW))
  have HB := hide (fun (W : World) (hW : Below w.heap.size w W) => shas_any v q qo m cv S W hm hm2 (hv.bel hW))
  have HC := hide (fun W => btw_any lo (-100000) hi W)
  have HBL := hide (ba (Below.refl w.heap.size w) (.cells #[.slice u n cu, .slice v m cv, .int .i64 lo, .int .i64 hi] 46))
  have n0 : (0 : Int) ≤ (n : Int) := Int.natCast_nonneg _
  have m0 : (0 : Int) ≤ (m : Int) := Int.natCast_nonneg _
  clear hu hv
  by_cases h1 : 4096 < n ∨ 4096 < m
  · rw [show mtC H S lo hi = 2 by unfold mtC; rw [if_pos (by omega)]]
    rcases Nat.le_total n m with hnm | hnm
    · have c1 : (n : Int) ≤ (m : Int) := by omega
      have d : decide ((4096 : Int) < (m : Int)) = true := decide_eq_true (by omega)
      go_enter Try.func21, Try.ntmps21
      go_wp2_with fail
      all_goals (go_ret; exact ⟨rfl, unhide HBL⟩)
    · have c1 : (m : Int) ≤ (n : Int) := by omega
      have d : decide ((4096 : Int) < (n : Int)) = true := decide_eq_true (by omega)
      go_enter Try.func21, Try.ntmps21
      go_wp2_with fail
      all_goals (go_ret; exact ⟨rfl, unhide HBL⟩)
  have hn4 : n ≤ 4096 := by omega
  have hm4 : m ≤ 4096 := by omega
  have hnI : (n : Int) ≤ 4096 := by omega
  have hmI : (m : Int) ≤ 4096 := by omega
  have dn : decide ((4096 : Int) < (n : Int)) = false := decide_eq_false (by omega)
  have dm : decide ((4096 : Int) < (m : Int)) = false := decide_eq_false (by omega)
  by_cases h2 : n ≤ 200 ∧ m ≤ 200
  rotate_left
  · rw [show mtC H S lo hi = 1 by unfold mtC; rw [if_neg (by omega), if_neg (by rw [hl, hm]; intro h; exact h2 ⟨h.1, h.2.1⟩)]]
    rcases Nat.le_total n m with hnm | hnm
    · have c1 : (n : Int) ≤ (m : Int) := by omega
      have d : decide ((m : Int) ≤ 200) = false := decide_eq_false (by omega)
      have d' : ¬ (m : Int) ≤ 200 := by omega
      go_enter Try.func21, Try.ntmps21
      go_wp2_with fail
      all_goals (go_ret; exact ⟨rfl, unhide HBL⟩)
    · have c1 : (m : Int) ≤ (n : Int) := by omega
      have d : decide ((n : Int) ≤ 200) = false := decide_eq_false (by omega)
      have d' : ¬ (n : Int) ≤ 200 := by omega
      go_enter Try.func21, Try.ntmps21
      go_wp2_with fail
      all_goals (go_ret; exact ⟨rfl, unhide HBL⟩)
  obtain ⟨h3, h4⟩ := h2
  have h3I : (n : Int) ≤ 200 := by omega
  have h4I : (m : Int) ≤ 200 := by omega
  have en : decide ((n : Int) ≤ 200) = true := decide_eq_true h3I
  have em : decide ((m : Int) ≤ 200) = true := decide_eq_true h4I
  have hC : mtC H S lo hi = if badS H = false ∧ badS S = false ∧ btw lo (-100000) hi = true ∧ hi ≤ 100000 then 0 else 1 := by
    unfold mtC btw
    rw [if_neg (by omega)]
    congr 1
    simp only [decide_eq_true_eq, eq_iff_iff]
    rw [hl, hm]
    constructor
    · rintro ⟨a, b, c, d, e, f, g⟩; exact ⟨c, d, ⟨e, f⟩, g⟩
    · rintro ⟨c, d, ⟨e, f⟩, g⟩; exact ⟨h3, h4, c, d, e, f, g⟩
  rw [hC]
  clear hC h1 hn hm2 hl hm hn4 hm4 hnI hmI h3 h4
  generalize badS H = bh at *
  generalize badS S = bs at *
  generalize btw lo (-100000) hi = bl at *
  cases bh
  rotate_left
  · rw [if_neg (by simp)]
    go_enter Try.func21, Try.ntmps21
    go_wp2_with fail
    all_goals
      refine (unhide HA _ (unhide HBL)).mono ?_
      rintro e W1 ⟨rfl, hW1⟩
      have hW1' := hW1.symm
      subst hW1'
      go_wp2_with fail
      go_ret
      exact ⟨rfl, unhide HBL⟩
  cases bs
  rotate_left
  · rw [if_neg (by simp)]
    go_enter Try.func21, Try.ntmps21
    go_wp2_with fail
    all_goals
      refine (unhide HA _ (unhide HBL)).mono ?_
      rintro e W1 ⟨rfl, hW1⟩
      have hW1' := hW1.symm
      subst hW1'
      go_wp2_with fail
      refine (unhide HB _ (unhide HBL)).mono ?_
      rintro e W1 ⟨rfl, hW1⟩
      have hW1' := hW1.symm
      subst hW1'
      go_wp2_with fail
      go_ret
      exact ⟨rfl, unhide HBL⟩
  cases bl
  · rw [if_neg (by simp)]
    go_enter Try.func21, Try.ntmps21
    go_wp2_with fail
    all_goals
      refine (unhide HA _ (unhide HBL)).mono ?_
      rintro e W1 ⟨rfl, hW1⟩
      have hW1' := hW1.symm
      subst hW1'
      go_wp2_with fail
      refine (unhide HB _ (unhide HBL)).mono ?_
      rintro e W1 ⟨rfl, hW1⟩
      have hW1' := hW1.symm
      subst hW1'
      go_wp2_with fail
      refine (unhide HC _).mono ?_
      rintro e W1 ⟨rfl, hW1⟩
      have hW1' := hW1.symm
      subst hW1'
      go_wp2_with fail
      go_ret
      exact ⟨rfl, unhide HBL⟩
  by_cases h5 : hi ≤ 100000
  · have d5 : decide (hi ≤ 100000) = true := decide_eq_true h5
    rw [if_pos ⟨rfl, rfl, rfl, h5⟩]
    go_enter Try.func21, Try.ntmps21
    go_wp2_with fail
    all_goals
      refine (unhide HA _ (unhide HBL)).mono ?_
      rintro e W1 ⟨rfl, hW1⟩
      have hW1' := hW1.symm
      subst hW1'
      go_wp2_with fail
      refine (unhide HB _ (unhide HBL)).mono ?_
      rintro e W1 ⟨rfl, hW1⟩
      have hW1' := hW1.symm
      subst hW1'
      go_wp2_with fail
      refine (unhide HC _).mono ?_
      rintro e W1 ⟨rfl, hW1⟩
      have hW1' := hW1.symm
      subst hW1'
      go_wp2_with fail
      go_ret
      exact ⟨rfl, unhide HBL⟩
  · have d5 : decide (hi ≤ 100000) = false := decide_eq_false h5
    rw [if_neg (fun h => h5 h.2.2.2)]
    go_enter Try.func21, Try.ntmps21
    go_wp2_with fail
    all_goals
      refine (unhide HA _ (unhide HBL)).mono ?_
      rintro e W1 ⟨rfl, hW1⟩
      have hW1' := hW1.symm
      subst hW1'
      go_wp2_with fail
      refine (unhide HB _ (unhide HBL)).mono ?_
      rintro e W1 ⟨rfl, hW1⟩
      have hW1' := hW1.symm
      subst hW1'
      go_wp2_with fail
      refine (unhide HC _).mono ?_
      rintro e W1 ⟨rfl, hW1⟩
      have hW1' := hW1.symm
      subst hW1'
      go_wp2_with fail
      go_ret
      exact ⟨rfl, unhide HBL⟩
end Go.Proofs.Ytmoobfbjehgdnaa
