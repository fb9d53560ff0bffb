/-
  KeepsOf, keepsAll, samePoints: what the laws ask of points.
-/
import Derived.Test.YtchdmigeopmacaaKpMath
import Derived.Test.YtchdmigeopmacaaInv
namespace Go.Proofs.Ytchdmigeopmacaa
open Go.ChangeShapes Go.WideShapes Go.ChangeAt Go.RowKit
set_option linter.unusedVariables false
set_option linter.unusedSimpArgs false

set_option maxHeartbeats 4000000 in
set_option maxRecDepth 100000 in
theorem keepsOf_core (g n c : Nat) (xa ya xb yb : Int) (k : Int) (a b : Nat) (m : Int) (v : Bool) (w : World) (hk : 1 ≤ k ∧ k ≤ 9) (ha : a < n) (hb : b < n) (hn : n ≤ 1000) (hg : g < w.heap.size)
    (bxa : -1000000 ≤ xa ∧ xa ≤ 1000000) (bya : -1000000 ≤ ya ∧ ya ≤ 1000000) (bxb : -1000000 ≤ xb ∧ xb ≤ 1000000) (byb : -1000000 ≤ yb ∧ yb ≤ 1000000)
    (cxa : w.cell? ⟨g, a * 2, none⟩ = some (.int .i64 xa)) (cya : w.cell? ⟨g, a * 2 + 1, none⟩ = some (.int .i64 ya)) (cxb : w.cell? ⟨g, b * 2, none⟩ = some (.int .i64 xb)) (cyb : w.cell? ⟨g, b * 2 + 1, none⟩ = some (.int .i64 yb))
    (HV : Hid (v = if k = 1 then xa == m else if k = 2 then ya == m else if k = 3 then xb - xa == m else if k = 4 then yb - ya == m else if k = 5 then decide (m ≤ xb - xa) else if k = 6 then decide (m ≤ yb - ya) else if k = 7 then xa == xb else if k = 8 then ya == yb else xa == xb && ya == yb)) :
    Calls Try.prog 28 #[.slice (some ⟨g, 0, none⟩) n c, .agg #[.int .i64 k, .int .i64 (a : Int), .int .i64 (b : Int), .int .i64 m]] w fun e w' => e = .returned (.bool v) ∧ Below w.heap.size w w' := by
  have i1 : (a : Int) < (n : Int) := by omega
  have i2 : (b : Int) < (n : Int) := by omega
  have i3 : (0 : Int) ≤ (a : Int) := by omega
  have i4 : (0 : Int) ≤ (b : Int) := by omega
  have hw1 : IntKind.i64.wrap (xb - xa) = xb - xa := wrap_i (by omega) (by omega)
  have hw2 : IntKind.i64.wrap (yb - ya) = yb - ya := wrap_i (by omega) (by omega)
  have h9 : k = 1 ∨ k = 2 ∨ k = 3 ∨ k = 4 ∨ k = 5 ∨ k = 6 ∨ k = 7 ∨ k = 8 ∨ k = 9 := by omega
  rcases h9 with rfl | rfl | rfl | rfl | rfl | rfl | rfl | rfl | rfl
  all_goals
    go_enter Try.func28, Try.ntmps28
    go_wp2_with fail
    all_goals
      go_ret
      exact ⟨ret_bool (by rw [unhide HV]; first | (simp [go_sem]; done) | (simp [*]; done)), by repeat (first | exact Below.refl _ _ | refine ba ?_ _ | refine Below.drew ?_)⟩
theorem keepsOf_any (g n c : Nat) (P : List Int) (r : Ru) (w : World) (hl : P.length = n * 2) (hr : ruOk (n : Int) r = true) (hn1 : 1 ≤ n) (hn : n ≤ 1000) (hbd : ∀ j, j < n * 2 → -1000000 ≤ gt P j ∧ gt P j ≤ 1000000) (hg : g < w.heap.size) (hI : IntsAt w g 0 P) :
    Calls Try.prog 28 #[.slice (some ⟨g, 0, none⟩) n c, ruv r] w fun e w' => e = .returned (.bool (keepF P r)) ∧ Below w.heap.size w w' := by
  obtain ⟨k, a', b', m⟩ := r
  obtain ⟨h1, h2, h3, h4, h5, h6⟩ := ok_ab hr (by omega)
  simp only at h1 h2 h3 h4 h5 h6
  obtain ⟨a, rfl⟩ := Int.eq_ofNat_of_zero_le h1.1
  obtain ⟨b, rfl⟩ := Int.eq_ofNat_of_zero_le h2.1
  have hc : ∀ j, j < n * 2 → w.cell? ⟨g, j, none⟩ = some (.int .i64 (gt P j)) := fun j hj => by have := hI _ _ (gtk_some (show j < P.length by omega)); rwa [Nat.zero_add] at this
  refine keepsOf_core g n c _ _ _ _ k a b m _ w ⟨h5, h6⟩ (by omega) (by omega) hn hg (hbd _ (by omega)) (hbd _ (by omega)) (hbd _ (by omega)) (hbd _ (by omega)) (hc (a * 2) (by omega)) (hc (a * 2 + 1) (by omega)) (hc (b * 2) (by omega)) (hc (b * 2 + 1) (by omega)) (hide ?_)
  simp only [keepF, Int.toNat_natCast]

set_option maxHeartbeats 4000000 in
set_option maxRecDepth 100000 in
theorem keepsAll_any (g n c : Nat) (P : List Int) (u : Option Addr) (p l cr : Nat) (rs : List Ru) (w : World) (hl : P.length = n * 2) (hr : ∀ r ∈ rs, ruOk (n : Int) r = true) (hn1 : 1 ≤ n) (hn : n ≤ 1000) (hll : rs.length = l) (hl2 : l ≤ 1000) (hbd : ∀ j, j < n * 2 → -1000000 ≤ gt P j ∧ gt P j ≤ 1000000) (hg : g < w.heap.size) (hI : IntsAt w g 0 P)
    (hX : l ≠ 0 → u = some ⟨p, 0, none⟩ ∧ p < w.heap.size ∧ RusAt w p 0 rs) :
    Calls Try.prog 11 #[.slice (some ⟨g, 0, none⟩) n c, .slice u l cr] w fun e w' => e = .returned (.bool (rs.all (keepF P))) ∧ Below w.heap.size w w' := by
  have HK : Hid (∀ W, Below w.heap.size w W → ∀ r ∈ rs, Calls Try.prog 28 #[.slice (some ⟨g, 0, none⟩) n c, ruv r] W fun e w' => e = .returned (.bool (keepF P r)) ∧ Below W.heap.size W w') := hide (fun W hW r h => keepsOf_any g n c P r W hl (hr r h) hn1 hn hbd (Nat.lt_of_lt_of_le hg hW.size) (hI.below hW hg))
  have HX := hide hX
  clear hl hr hbd hI hX
  go_enter Try.func11, Try.ntmps11
  go_wp2_with fail
  go_loopw [5] (fun s W => ∃ i : Nat, s = .int .i64 (i : Int) ∧ i ≤ l ∧ (rs.take i).all (keepF P) = true ∧ Below w.heap.size w W) (fun s _ => l - (intOf s).toNat)
  case atStart => exact ⟨0, rfl, by omega, rfl, Below.refl _ _⟩
  case round =>
    obtain ⟨i, rfl, hi, hal, hw⟩ := hrel
    have HW := hide hw
    have HAL := hide hal
    clear hw hal
    by_cases h : i < l
    · have i1 : (i : Int) < (l : Int) := by omega
      have i0 : (0 : Int) ≤ (i : Int) := Int.natCast_nonneg _
      have iz : decide ((i : Int) < (l : Int)) = true := decide_eq_true i1
      obtain ⟨rfl, pw, pa⟩ := unhide HX (by omega)
      obtain ⟨K, A, B, M, hri⟩ : ∃ K A B M : Int, rs[i]? = some (K, A, B, M) := ⟨_, _, _, _, List.getElem?_eq_getElem (show i < rs.length by omega)⟩
      obtain ⟨k0, k1, k2, k3⟩ := (pa.bel (unhide HW) pw) i _ hri
      simp only [Nat.zero_add] at k0 k1 k2 k3
      have HKi := hide (unhide HK _ (unhide HW) _ (List.mem_of_getElem? hri))
      have hst : (rs.take (i + 1)).all (keepF P) = ((rs.take i).all (keepF P) && keepF P (K, A, B, M)) := by rw [List.take_add_one, hri, List.all_append]; simp
      have HST := hide hst
      have HRI := hide hri
      clear pa hst hri
      go_wp2_with fail
      refine (unhide HKi).mono ?_
      rintro e W2 ⟨rfl, hb2⟩
      have HB2 := hide (bc (unhide HW) hb2)
      clear hb2
      cases hkp : keepF P (K, A, B, M) with
      | true =>
        go_wp2_with fail
        go_roundw
        case rel => exact ⟨i + 1, by simp, h, by rw [unhide HST, unhide HAL, hkp]; rfl, unhide HB2⟩
        case measure => simp only [intOf]; omega
      | false =>
        go_wp2_with fail
        go_ret
        refine ⟨ret_bool ?_, unhide HB2⟩
        symm
        rw [List.all_eq_false]
        exact ⟨_, List.mem_of_getElem? (unhide HRI), by rw [hkp]; simp⟩
    · have i1 : ¬ (i : Int) < (l : Int) := by omega
      have iz : decide ((i : Int) < (l : Int)) = false := decide_eq_false i1
      have en : i = rs.length := by omega
      subst en
      have hal := unhide HAL
      rw [List.take_length] at hal
      go_wp2_with fail
      go_ret
      exact ⟨rfl, unhide HW⟩

set_option maxHeartbeats 1000000 in
theorem pts_same_any (u v : Option Addr) (p po q qo n cu cv : Nat) (L : List Int) (w : World) (hl : L.length = n * 2) (hn : n ≤ 1000)
    (hu : n ≠ 0 → u = some ⟨p, po, none⟩ ∧ p < w.heap.size ∧ IntsAt w p po L) (hv : n ≠ 0 → v = some ⟨q, qo, none⟩ ∧ q < w.heap.size ∧ IntsAt w q qo L) :
    Calls Try.prog 9 #[.slice u n cu, .slice v n cv] w fun e w' => e = .returned (.bool true) ∧ Below w.heap.size w w' := by
  have HU := hide hu
  have HV := hide hv
  have HL := hide hl
  clear hu hv hl
  go_enter Try.func9, Try.ntmps9
  go_wp2
  go_loopw [5] (fun s W => ∃ i : Nat, s = .int .i64 (i : Int) ∧ i ≤ n ∧ Below w.heap.size w W) (fun s _ => n - (intOf s).toNat)
  case atStart => exact ⟨0, rfl, Nat.zero_le _, Below.refl _ _⟩
  case round =>
    obtain ⟨i, rfl, hi, hw⟩ := hrel
    have HW := hide hw
    clear hw
    by_cases h : i < n
    · have i1 : (i : Int) < (n : Int) := by omega
      have i0 : (0 : Int) ≤ (i : Int) := Int.natCast_nonneg _
      have iz : decide ((i : Int) < (n : Int)) = true := decide_eq_true i1
      obtain ⟨rfl, pw, pa⟩ := unhide HU (by omega)
      obtain ⟨rfl, qw, qa⟩ := unhide HV (by omega)
      have pb := pa.below (unhide HW) pw
      have qb := qa.below (unhide HW) qw
      obtain ⟨x0, e0⟩ := at_of (f := 0) (unhide HL) h (by omega)
      obtain ⟨x1, e1⟩ := at_of (f := 1) (unhide HL) h (by omega)
      have k0 := pb.at0 e0
      have l0 := qb.at0 e0
      have k1 := pb.at e1
      have l1 := qb.at e1
      clear pa qa pb qb pw qw e0 e1
      go_wp2_with fail
      go_region
      all_goals
        go_wp2_with fail
        go_roundw
        case rel => exact ⟨i + 1, by simp, h, by repeat (first | exact unhide HW | refine Below.drew ?_)⟩
        case measure => simp only [intOf]; omega
    · have i1 : ¬ (i : Int) < (n : Int) := by omega
      have iz : decide ((i : Int) < (n : Int)) = false := decide_eq_false i1
      go_wp2_with fail
      go_ret
      exact ⟨rfl, unhide HW⟩
end Go.Proofs.Ytchdmigeopmacaa
