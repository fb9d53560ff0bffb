/-
  Twice the area of a polygon, of both sides.
-/
import Derived.Test.YtegfghpaldnpeaaPolyP
namespace Go.Proofs.Ytegfghpaldnpeaa
open Go.ChangeShapes Go.WideShapes Go.ChangeAt Go.RowKit Go.Shelf
set_option linter.unusedVariables false
set_option linter.unusedSimpArgs false

/-- what the first sides come to -/
def areaTo (L : List Pt) (n : Nat) : Nat → Int
  | 0 => 0
  | i + 1 => areaTo L n i + acr (ptAt L i) (ptAt L ((i + 1) % n))
theorem pc_zero {L : List Pt} (h : (pcode L).1 = 0) : ¬ 200 < L.length ∧ firstI (badI L) L.length = none ∧ ¬ L.length < 3 := by
  unfold pcode at h
  split at h
  · simp at h
  split at h
  · simp at h
  rename_i h1 h2
  cases hb : firstI (badI L) L.length with
  | some i => rw [hb] at h; simp at h
  | none =>
    rw [hb] at h
    simp only at h
    split at h
    · simp at h
    · rename_i h3; exact ⟨h2, rfl, h3⟩
theorem pc_two {L : List Pt} : (pcode L).1 = 2 ↔ 4096 < L.length := by
  constructor
  · intro h
    unfold pcode at h
    split at h
    · assumption
    split at h
    · simp at h
    cases hb : firstI (badI L) L.length with
    | some i => rw [hb] at h; simp at h
    | none =>
      rw [hb] at h
      simp only at h
      split at h
      · simp at h
      cases hd : firstI (dupI L) L.length with
      | some i => rw [hd] at h; simp at h
      | none =>
        rw [hd] at h
        simp only at h
        cases hw : firstI (wrongI L) L.length with
        | some i => rw [hw] at h; simp at h
        | none => rw [hw] at h; simp at h
  · intro h
    rw [pc_long h]
theorem ok_at {L : List Pt} (h : firstI (badI L) L.length = none) (t : Nat) (ht : t < L.length) : ptOk (ptAt L t) = true := by
  have := firstI_none_iff h t ht
  unfold badI at this
  simpa using this
theorem acr_small (a b : Pt) (ha : ptOk a = true) (hb : ptOk b = true) : -20000000000 ≤ acr a b ∧ acr a b ≤ 20000000000 := by
  obtain ⟨p1, p2, p3, p4⟩ := ok_bd ha
  obtain ⟨q1, q2, q3, q4⟩ := ok_bd hb
  have m1 := mul_bd a.1 b.2 100000 100000 (by omega) (by omega) (by omega) (by omega)
  have m2 := mul_bd a.2 b.1 100000 100000 (by omega) (by omega) (by omega) (by omega)
  unfold acr
  omega
theorem areaTo_bd {L : List Pt} {n : Nat} (hN : L.length = n) (h : firstI (badI L) L.length = none) : ∀ i, i ≤ n → -(i * 20000000000 : Int) ≤ areaTo L n i ∧ areaTo L n i ≤ (i * 20000000000 : Int) := by
  intro i
  induction i with
  | zero => intro _; simp [areaTo]
  | succ i ih =>
    intro hi
    have h1 := ih (by omega)
    have h2 := acr_small (ptAt L i) (ptAt L ((i + 1) % n)) (ok_at h i (by omega)) (ok_at h _ (by rw [hN]; exact Nat.mod_lt _ (by omega)))
    simp only [areaTo]
    omega
/-- is it a right polygon -/
theorem polygonM_any (b off cap n : Nat) (L : List Pt) (w : World) (HN : Hid (L.length = n)) (hn : n ≤ 4611686018427387904) (HBB : Hid (b < w.heap.size)) (HX : Hid (PtsAt w b off L)) :
    Calls Try.prog 38 #[.slice (some ⟨b, off, none⟩) n cap] w fun e w' => e = .returned (.bool (decide ((pcode L).1 = 0))) ∧ Below w.heap.size w w' := by
  have H22 := hide (polyM_any (some ⟨b, off, none⟩) b off cap n L w HN hn (hide fun _ => ⟨rfl, unhide HBB, unhide HX⟩))
  generalize (pcode L).1 = C at *
  generalize (pcode L).2 = A at *
  cases hc : (C == 0)
  all_goals
    have HC := hide hc
    go_enter Try.func38, Try.ntmps38
    go_wp2_with fail
    refine (unhide H22).mono ?_
    rintro e W1 ⟨rfl, hb⟩
    have HB := hide hb
    clear hb
    go_wp2_with fail
    go_ret
    refine ⟨ret_bool ?_, unhide HB⟩
    have := unhide HC
    simp at this
    simp [this]
/-- its code, or that it is none -/
def whole1 (C : Int) : Int := if C = 0 ∨ C = 2 then C else 1
theorem wholeP_any (b off cap n : Nat) (L : List Pt) (w : World) (HN : Hid (L.length = n)) (hn : n ≤ 4611686018427387904) (hcap : Hid (n ≤ cap)) (HBB : Hid (b < w.heap.size)) (HX : Hid (PtsAt w b off L)) :
    Calls Try.prog 41 #[.slice (some ⟨b, off, none⟩) n cap] w fun e w' => e = .returned (.int .i64 (whole1 (pcode L).1)) ∧ Below w.heap.size w w' := by
  have H23 := hide (polyP_any b off cap n L w HN hn hcap HBB HX)
  generalize (pcode L).1 = C at *
  generalize (pcode L).2 = A at *
  have hcc : (C == 0) = true ∧ whole1 C = C ∨ (C == 0) = false ∧ (C == 2) = true ∧ whole1 C = C ∨ (C == 0) = false ∧ (C == 2) = false ∧ whole1 C = 1 := by
    unfold whole1
    by_cases h0 : C = 0
    · exact .inl ⟨by simp [h0], by simp [h0]⟩
    · by_cases h2 : C = 2
      · exact .inr (.inl ⟨by simp [h0], by simp [h2], by simp [h2]⟩)
      · exact .inr (.inr ⟨by simp [h0], by simp [h2], by simp [h0, h2]⟩)
  rcases hcc with ⟨c0, cv⟩ | ⟨c0, c2, cv⟩ | ⟨c0, c2, cv⟩
  all_goals
    rw [cv]
    clear cv
    go_enter Try.func41, Try.ntmps41
    go_wp2_with fail
    refine (unhide H23).mono ?_
    rintro e W1 ⟨rfl, hb⟩
    have HB := hide hb
    clear hb
    go_wp2_with fail
    go_ret
    exact ⟨rfl, unhide HB⟩

set_option maxRecDepth 100000 in
set_option maxHeartbeats 2000000 in
theorem areaM_loop (b off cap n : Nat) (L : List Pt) (w : World) (HN : Hid (L.length = n)) (hn : n ≤ 200) (HBAD : Hid (firstI (badI L) L.length = none)) (HBB : Hid (b < w.heap.size)) (HX : Hid (PtsAt w b off L)) :
    Calls Try.prog 50 #[.slice (some ⟨b, off, none⟩) n cap] w fun e w' => e = .returned (.int .i64 (areaTo L n n)) ∧ Below w.heap.size w w' := by
  have n0 : (0 : Int) ≤ (n : Int) := Int.natCast_nonneg _
  go_enter Try.func50, Try.ntmps50
  go_wp2_with fail
  go_loopw [3, 4] (fun s t W => ∃ i : Nat, s = .int .i64 (areaTo L n i) ∧ t = .int .i64 (i : Int) ∧ i ≤ n ∧ Below w.heap.size w W) (fun _ s _ => n - (intOf s).toNat)
  case atStart => exact ⟨0, rfl, rfl, Nat.zero_le _, Below.refl _ _⟩
  case round =>
    obtain ⟨i, rfl, rfl, hi, hw⟩ := hrel
    have HW := hide hw
    clear hw
    by_cases h : i < n
    · have i1 : (i : Int) < (n : Int) := by omega
      have i0 : (0 : Int) ≤ (i : Int) := Int.natCast_nonneg _
      have iz : decide ((i : Int) < (n : Int)) = true := decide_eq_true i1
      have nz : ((n : Int) == 0) = false := by rw [beq_eq_false_iff_ne]; omega
      have nw : ¬ n = 0 := by omega
      have wi : IntKind.i64.wrap ((i : Int) + 1) = (i : Int) + 1 := wrap_i (by omega) (by omega)
      have mi' : (i + 1) % n < n := Nat.mod_lt _ (by omega)
      obtain ⟨m, hm⟩ : ∃ m : Nat, (i + 1) % n = m := ⟨_, rfl⟩
      rw [hm] at mi'
      have ei : ((i : Int) + 1).tmod (n : Int) = (m : Int) := by rw [tmod_nat, hm]
      have ei2 : ((i : Int) + 1) % (n : Int) = (m : Int) := by rw [← hm]; rfl
      have m0 : (0 : Int) ≤ (m : Int) := Int.natCast_nonneg _
      have m1 : (m : Int) < (n : Int) := by omega
      have HA : Hid (areaTo L n (i + 1) = areaTo L n i + acr (ptAt L i) (ptAt L m)) := hide (by rw [← hm]; rfl)
      obtain ⟨a1, a2⟩ := areaTo_bd (unhide HN) (unhide HBAD) i (by omega)
      have op := ok_at (unhide HBAD) i (by rw [unhide HN]; exact h)
      have oq := ok_at (unhide HBAD) m (by rw [unhide HN]; exact mi')
      clear hm
      have pw := (unhide HX).bel (unhide HW) (unhide HBB)
      obtain ⟨x0, x1⟩ := pw i _ (ptAt_some (L := L) (i := i) (by rw [unhide HN]; omega))
      obtain ⟨x2, x3⟩ := pw m _ (ptAt_some (L := L) (i := m) (by rw [unhide HN]; omega))
      obtain ⟨⟨p1, p2⟩, hp⟩ : ∃ p : Pt, ptAt L i = p := ⟨_, rfl⟩
      obtain ⟨⟨q1, q2⟩, hq⟩ : ∃ q : Pt, ptAt L m = q := ⟨_, rfl⟩
      rw [hp] at x0 x1 HA op
      rw [hq] at x2 x3 HA oq
      dsimp only [acr] at x0 x1 x2 x3 HA
      obtain ⟨b1, b2, b3, b4⟩ := ok_bd op
      obtain ⟨c1, c2, c3, c4⟩ := ok_bd oq
      dsimp only at b1 b2 b3 b4 c1 c2 c3 c4
      obtain ⟨d1, d2⟩ := mul_bd p1 q2 100000 100000 (by omega) (by omega) (by omega) (by omega)
      obtain ⟨d3, d4⟩ := mul_bd p2 q1 100000 100000 (by omega) (by omega) (by omega) (by omega)
      obtain ⟨AR, har⟩ : ∃ A, areaTo L n i = A := ⟨_, rfl⟩
      rw [har] at a1 a2 HA
      have e1 : -4000000000000 ≤ AR := by omega
      have e2 : AR ≤ 4000000000000 := by omega
      have d1' : -10000000000 ≤ p1 * q2 := by omega
      have d2' : p1 * q2 ≤ 10000000000 := by omega
      have d3' : -10000000000 ≤ p2 * q1 := by omega
      have d4' : p2 * q1 ≤ 10000000000 := by omega
      rw [har]
      clear pw hp hq op oq a1 a2 d1 d2 d3 d4 har b1 b2 b3 b4 c1 c2 c3 c4
      have lb := cell_lt x0
      have lb2 := Nat.le_of_lt lb
      have lb3 : wr.heap.size ≠ b := by omega
      go_wp2_with fail
      go_roundw
      case rel =>
        refine ⟨i + 1, by rw [unhide HA], by simp, h, ba (ba (unhide HW) _) _⟩
      case measure => simp only [intOf]; omega
    · have i1 : ¬ (i : Int) < (n : Int) := by omega
      have iz : decide ((i : Int) < (n : Int)) = false := decide_eq_false i1
      have en : i = n := by omega
      subst en
      go_wp2_with fail
      go_ret
      exact ⟨rfl, unhide HW⟩

/-- what Area2 answers -/
def areaV (L : List Pt) (n : Nat) : Int := if (pcode L).1 = 0 then areaTo L n n else 0
def areaC (L : List Pt) (n : Nat) : Int := if 4096 < n then 2 else if (pcode L).1 = 0 then 0 else 1
theorem tup2' {a b c d : Int} (h : c = a) (h2 : d = b) : Ending.returned (.tuple #[.int .i64 a, .int .i64 b]) = .returned (.tuple #[.int .i64 c, .int .i64 d]) := by rw [h, h2]
theorem pc_zero_long {L : List Pt} {n : Nat} (hN : L.length = n) (h : 4096 < n) : ¬ (pcode L).1 = 0 := by
  rw [pc_long (by omega)]; simp
set_option maxRecDepth 100000 in
theorem area2M_any (b off cap n : Nat) (L : List Pt) (w : World) (HN : Hid (L.length = n)) (hn : n ≤ 4611686018427387904) (HBB : Hid (b < w.heap.size)) (HX : Hid (PtsAt w b off L)) :
    Calls Try.prog 24 #[.slice (some ⟨b, off, none⟩) n cap] w fun e w' => e = .returned (.tuple #[.int .i64 (areaV L n), .int .i64 (areaC L n)]) ∧ Below w.heap.size w w' := by
  by_cases h1 : 4096 < n
  · have t1 : decide ((4096 : Int) < (n : Int)) = true := decide_eq_true (by omega)
    go_enter Try.func24, Try.ntmps24
    go_wp2_with fail
    exact bodyPost_ret (v := .tuple #[.int .i64 0, .int .i64 2]) (by simp [results, Try.results24, go_sem]) rfl ⟨tup2' (by unfold areaV; rw [if_neg (pc_zero_long (unhide HN) h1)]) (by unfold areaC; rw [if_pos h1]), Below.refl _ _⟩
  have t1 : decide ((4096 : Int) < (n : Int)) = false := decide_eq_false (by omega)
  have H38 := hide (polygonM_any b off cap n L w HN hn HBB HX)
  by_cases h2 : (pcode L).1 = 0
  · rw [decide_eq_true h2] at H38
    obtain ⟨z1, z2, z3⟩ := pc_zero h2
    have H50 := hide (fun W (hW : Below w.heap.size w W) => areaM_loop b off cap n L W HN (by have := unhide HN; omega) (hide z2) (hide (Nat.lt_of_lt_of_le (unhide HBB) hW.size)) (hide ((unhide HX).bel hW (unhide HBB))))
    have HV : Hid (areaV L n = areaTo L n n) := hide (by unfold areaV; rw [if_pos h2])
    have HC : Hid (areaC L n = 0) := hide (by unfold areaC; rw [if_neg h1, if_pos h2])
    generalize areaTo L n n = A at *
    clear h2 z1 z2 z3
    go_enter Try.func24, Try.ntmps24
    go_wp2_with fail
    refine (unhide H38).mono ?_
    rintro e W1 ⟨rfl, hb⟩
    have HB := hide hb
    clear hb
    go_wp2_with fail
    refine (unhide H50 _ (unhide HB)).mono ?_
    rintro e W2 ⟨rfl, hb⟩
    have HB2 := hide (bc (unhide HB) hb)
    clear hb
    go_wp2_with fail
    exact bodyPost_ret (v := .tuple #[.int .i64 A, .int .i64 0]) (by simp [results, Try.results24, go_sem]) rfl ⟨tup2' (unhide HV) (unhide HC), unhide HB2⟩
  · rw [decide_eq_false h2] at H38
    have HV : Hid (areaV L n = 0) := hide (by unfold areaV; rw [if_neg h2])
    have HC : Hid (areaC L n = 1) := hide (by unfold areaC; rw [if_neg h1, if_neg h2])
    clear h2
    go_enter Try.func24, Try.ntmps24
    go_wp2_with fail
    refine (unhide H38).mono ?_
    rintro e W1 ⟨rfl, hb⟩
    have HB := hide hb
    clear hb
    go_wp2_with fail
    exact bodyPost_ret (v := .tuple #[.int .i64 0, .int .i64 1]) (by simp [results, Try.results24, go_sem]) rfl ⟨tup2' (unhide HV) (unhide HC), unhide HB⟩
theorem whole1_cases (L : List Pt) (n : Nat) (hN : L.length = n) : whole1 (pcode L).1 = areaC L n ∧ ((areaC L n != 0) = true ∧ areaV L n = 0 ∨ (areaC L n = 0 ∧ (pcode L).1 = 0 ∧ areaV L n = areaTo L n n)) := by
  unfold whole1 areaC areaV
  have h2 := pc_two (L := L)
  rw [hN] at h2
  by_cases h1 : 4096 < n
  · have := h2.2 h1
    simp [h1, this]
  · have h3 : ¬ (pcode L).1 = 2 := fun h => h1 (h2.1 h)
    by_cases h4 : (pcode L).1 = 0
    · simp [h1, h4]
    · simp [h1, h3, h4]
set_option maxRecDepth 100000 in
set_option maxHeartbeats 2000000 in
theorem area2P_any (b off cap n : Nat) (L : List Pt) (w : World) (HN : Hid (L.length = n)) (hn : n ≤ 4611686018427387904) (hcap : Hid (n ≤ cap)) (HBB : Hid (b < w.heap.size)) (HX : Hid (PtsAt w b off L)) :
    Calls Try.prog 25 #[.slice (some ⟨b, off, none⟩) n cap] w fun e w' => e = .returned (.tuple #[.int .i64 (areaV L n), .int .i64 (areaC L n)]) ∧ Below w.heap.size w w' := by
  have H41 := hide (wholeP_any b off cap n L w HN hn hcap HBB HX)
  obtain ⟨hw1, hw2⟩ := whole1_cases L n (unhide HN)
  rw [hw1] at H41
  clear hw1
  rcases hw2 with ⟨h1, h2⟩ | ⟨h1, h2, h3⟩
  · rw [h2]
    generalize areaC L n = C at *
    clear h2
    go_enter Try.func25, Try.ntmps25
    go_wp2_with fail
    refine (unhide H41).mono ?_
    rintro e W1 ⟨rfl, hb⟩
    have HB := hide hb
    clear hb
    go_wp2_with fail
    exact bodyPost_ret (v := .tuple #[.int .i64 0, .int .i64 C]) (by simp [results, Try.results25, go_sem]) rfl ⟨rfl, unhide HB⟩
  · rw [h1] at H41
    rw [h1, h3]
    obtain ⟨z1, z2, z3⟩ := pc_zero h2
    have HBAD := hide z2
    have n2 : n ≤ 200 := by have := unhide HN; omega
    have HF : Hid (∀ i, i < n → (flatG (sides L))[i * 4]? = some (ptAt L i).1 ∧ (flatG (sides L))[i * 4 + 1]? = some (ptAt L i).2 ∧ (flatG (sides L))[i * 4 + 2]? = some (ptAt L ((i + 1) % n)).1 ∧ (flatG (sides L))[i * 4 + 3]? = some (ptAt L ((i + 1) % n)).2) := hide fun i hi => by
      have h1 := flatG_at (sides L) i _ (sides_at L i (by rw [unhide HN]; exact hi))
      rw [unhide HN] at h1
      exact h1
    have H47 := hide (fun W (hW : Below w.heap.size w W) => sidesOf_any b off cap n L W HN n2 (Nat.lt_of_lt_of_le (unhide HBB) hW.size) (hide ((unhide HX).bel hW (unhide HBB))))
    generalize flatG (sides L) = F at *
    clear h1 h2 h3 z1 z2 z3
    go_enter Try.func25, Try.ntmps25
    go_wp2_with fail
    refine (unhide H41).mono ?_
    rintro e W1 ⟨rfl, hb⟩
    have HB := hide hb
    clear hb
    go_wp2_with fail
    refine (unhide H47 _ (unhide HB)).mono ?_
    rintro e W2 ⟨⟨g, rfl, hg, hk⟩, hb⟩
    have HB2 := hide (bc (unhide HB) hb)
    have HK := hide hk
    clear hb hk hg
    go_wp2_with fail
    go_loopw [5, 16] (fun s t W => ∃ i : Nat, s = .int .i64 (areaTo L n i) ∧ t = .int .i64 (i : Int) ∧ i ≤ n ∧ Below W2.heap.size W2 W) (fun _ s _ => n - (intOf s).toNat)
    case atStart => exact ⟨0, rfl, rfl, Nat.zero_le _, Below.refl _ _⟩
    case round =>
      obtain ⟨i, rfl, rfl, hi, hw⟩ := hrel
      have HW := hide hw
      clear hw
      by_cases h : i < n
      · have i1 : (i : Int) < (n : Int) := by omega
        have i0 : (0 : Int) ≤ (i : Int) := Int.natCast_nonneg _
        have iz : decide ((i : Int) < (n : Int)) = true := decide_eq_true i1
        have mi' : (i + 1) % n < n := Nat.mod_lt _ (by omega)
        obtain ⟨f0, f1, f2, f3⟩ := unhide HF i h
        obtain ⟨m, hm⟩ : ∃ m : Nat, (i + 1) % n = m := ⟨_, rfl⟩
        have HA : Hid (areaTo L n (i + 1) = areaTo L n i + acr (ptAt L i) (ptAt L m)) := hide (by rw [← hm]; rfl)
        rw [hm] at mi' f2 f3
        clear hm
        obtain ⟨a1, a2⟩ := areaTo_bd (unhide HN) (unhide HBAD) i (by omega)
        have op := ok_at (unhide HBAD) i (by rw [unhide HN]; exact h)
        have oq := ok_at (unhide HBAD) m (by rw [unhide HN]; exact mi')
        have hs := acr_small _ _ op oq
        have bd : ∀ p : Pt, ptOk p = true → (-200000 ≤ p.1 ∧ p.1 ≤ 200000) ∧ -200000 ≤ p.2 ∧ p.2 ≤ 200000 := fun p hp => by
          obtain ⟨b1, b2, b3, b4⟩ := ok_bd hp
          omega
        have H51 := fun W => acr_below (ptAt L i) (ptAt L m) W (bd _ op) (bd _ oq)
        have kb := (unhide HK).bel (unhide HW)
        have x0 := kb.cell f0
        have x1 := kb.cell f1
        have x2 := kb.cell f2
        have x3 := kb.cell f3
        obtain ⟨⟨p1, p2⟩, hp⟩ : ∃ p : Pt, ptAt L i = p := ⟨_, rfl⟩
        obtain ⟨⟨q1, q2⟩, hq⟩ : ∃ q : Pt, ptAt L m = q := ⟨_, rfl⟩
        rw [hp] at x0 x1 HA H51 hs
        rw [hq] at x2 x3 HA H51 hs
        obtain ⟨AR, har⟩ : ∃ A, areaTo L n i = A := ⟨_, rfl⟩
        obtain ⟨AC, hac⟩ : ∃ A, acr (p1, p2) (q1, q2) = A := ⟨_, rfl⟩
        rw [har] at a1 a2 HA
        rw [hac] at H51 hs HA
        dsimp only [ptv] at x0 x1 x2 x3 H51
        have G51 := hide H51
        have e1 : -4000000000000 ≤ AR := by omega
        have e2 : AR ≤ 4000000000000 := by omega
        obtain ⟨s1, s2⟩ := hs
        rw [har]
        clear hp hq op oq a1 a2 har hac H51 bd kb f0 f1 f2 f3
        have lb := cell_lt x0
        have lb2 := Nat.le_of_lt lb
        have lb3 : wr.heap.size ≠ g := by omega
        go_wp2_with fail
        refine (unhide G51 _).mono ?_
        rintro e W3 ⟨rfl, hb⟩
        have HB3 := hide (bc (ba (unhide HW) _) hb)
        clear hb
        go_wp2_with fail
        go_roundw
        case rel => exact ⟨i + 1, by rw [unhide HA], by simp, h, unhide HB3⟩
        case measure => simp only [intOf]; omega
      · have i1 : ¬ (i : Int) < (n : Int) := by omega
        have iz : decide ((i : Int) < (n : Int)) = false := decide_eq_false i1
        have en : i = n := by omega
        subst en
        obtain ⟨AR, har⟩ : ∃ A, areaTo L i i = A := ⟨_, rfl⟩
        rw [har]
        have HAR := hide har
        clear har
        go_wp2_with fail
        exact bodyPost_ret (v := .tuple #[.int .i64 AR, .int .i64 0]) (by simp [results, Try.results25, go_sem]) rfl ⟨tup2' (unhide HAR) rfl, bc (unhide HB2) (unhide HW)⟩
end Go.Proofs.Ytegfghpaldnpeaa
