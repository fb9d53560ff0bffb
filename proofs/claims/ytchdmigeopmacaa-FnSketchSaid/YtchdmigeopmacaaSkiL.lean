/-
  Numbers that are the same, by the laws' sameInts; rules that are picked; a core's rules.
-/
import Derived.Test.YtchdmigeopmacaaCoMath
import Derived.Test.YtchdmigeopmacaaSkOfT
import Derived.Test.YtchdmigeopmacaaLawKit
namespace Go.Proofs.Ytchdmigeopmacaa
open Go.ChangeShapes Go.WideShapes Go.ChangeAt Go.RowKit
set_option linter.unusedVariables false
set_option linter.unusedSimpArgs false

set_option maxHeartbeats 1000000 in
theorem ints_same (u v : Option Addr) (p po q qo n cu cv : Nat) (L : List Int) (w : World) (hl : L.length = n * 1) (hn : n ≤ 4611686018427387904)
    (hu : n ≠ 0 → u = some ⟨p, po, none⟩ ∧ p < w.heap.size ∧ IntsAt w p po L) (hv : n ≠ 0 → v = some ⟨q, qo, none⟩ ∧ q < w.heap.size ∧ IntsAt w q qo L) :
    Calls Try.prog 10 #[.slice u n cu, .slice v n cv] w fun e w' => e = .returned (.bool true) ∧ Below w.heap.size w w' := by
  have HU := hide hu
  have HV := hide hv
  have HL := hide hl
  clear hu hv hl
  go_enter Try.func10, Try.ntmps10
  go_wp2
  go_loopw [5] (fun s W => ∃ i : Nat, s = .int .i64 (i : Int) ∧ i ≤ n ∧ Below w.heap.size w W) (fun s _ => n - (intOf s).toNat)
  case atStart => exact ⟨0, rfl, Nat.zero_le _, Below.refl _ _⟩
  case round =>
    obtain ⟨i, rfl, hi, hw⟩ := hrel
    have HW := hide hw
    clear hw
    by_cases h : i < n
    · have i1 : (i : Int) < (n : Int) := by omega
      have i0 : (0 : Int) ≤ (i : Int) := Int.natCast_nonneg _
      have iz : decide ((i : Int) < (n : Int)) = true := decide_eq_true i1
      obtain ⟨rfl, pw, pa⟩ := unhide HU (by omega)
      obtain ⟨rfl, qw, qa⟩ := unhide HV (by omega)
      have pb := pa.below (unhide HW) pw
      have qb := qa.below (unhide HW) qw
      obtain ⟨x0, e0⟩ := at_of (f := 0) (unhide HL) h (by omega)
      have k0 := pb.at0 e0
      have l0 := qb.at0 e0
      clear pa qa pb qb pw qw e0
      have f0 : (x0 != x0) = false := by simp
      rw [Nat.mul_one] at k0 l0
      go_wp2_with fail
      go_region
      all_goals
        go_wp2_with fail
        go_roundw
        case rel => exact ⟨i + 1, by simp, h, by repeat (first | exact unhide HW | refine Below.drew ?_)⟩
        case measure => simp only [intOf]; omega
    · have i1 : ¬ (i : Int) < (n : Int) := by omega
      have iz : decide ((i : Int) < (n : Int)) = false := decide_eq_false i1
      go_wp2_with fail
      go_ret
      exact ⟨rfl, unhide HW⟩

theorem rusAt_ints4 {w : World} {g : Nat} {rs : List Ru} (h : IntsAt w g 0 (flat4 rs)) : RusAt w g 0 rs := by
  intro j r hj
  obtain ⟨h0, h1, h2, h3⟩ := flat4_at hj
  exact ⟨h _ _ h0, h _ _ h1, h _ _ h2, h _ _ h3⟩
theorem flat4_append (a b : List Ru) : flat4 (a ++ b) = flat4 a ++ flat4 b := by simp [flat4]

theorem pick_len2 (rs : List Ru) (ks : List Nat) : (pick rs ks).length = ks.length := by simp [pick]
theorem take_flat (R : List Ru) {i : Nat} {r : Ru} (h : R[i]? = some r) : flat4 (R.take (i + 1)) = flat4 (R.take i) ++ [r.1, r.2.1, r.2.2.1, r.2.2.2] := by
  rw [List.take_add_one, h, flat4_append]
  rfl
theorem flat4_take (R : List Ru) (i : Nat) : (flat4 R).take (i * 4) = flat4 (R.take i) := by
  induction R generalizing i with
  | nil => simp [flat4]
  | cons x R ih =>
    cases i with
    | zero => rfl
    | succ i =>
      show (x.1 :: x.2.1 :: x.2.2.1 :: x.2.2.2 :: flat4 R).take ((i + 1) * 4) = x.1 :: x.2.1 :: x.2.2.1 :: x.2.2.2 :: flat4 (R.take i)
      rw [show (i + 1) * 4 = i * 4 + 1 + 1 + 1 + 1 by omega, List.take_succ_cons, List.take_succ_cons, List.take_succ_cons, List.take_succ_cons, ih]
theorem flat4_drop (R : List Ru) (i : Nat) : (flat4 R).drop (i * 4) = flat4 (R.drop i) := by
  induction R generalizing i with
  | nil => simp [flat4]
  | cons x R ih =>
    cases i with
    | zero => rfl
    | succ i =>
      show (x.1 :: x.2.1 :: x.2.2.1 :: x.2.2.2 :: flat4 R).drop ((i + 1) * 4) = flat4 (R.drop i)
      rw [show (i + 1) * 4 = i * 4 + 1 + 1 + 1 + 1 by omega, List.drop_succ_cons, List.drop_succ_cons, List.drop_succ_cons, List.drop_succ_cons, ih]
/-- a core's answer -/
theorem out_core {N : Nat} {rs : List Ru} (hok : skOk (N : Int) rs = true) (hk : keptP N rs = false) : outC (N : Int) rs = 15 ∧ outK (N : Int) rs = coreGo (badK N rs) rs.length (List.range rs.length) := by
  unfold outC outK
  rw [Int.toNat_natCast, if_pos hok, hk, if_pos hok]
  exact ⟨rfl, rfl⟩
theorem sk_of {N : Nat} {rs : List Ru} (n1 : 1 ≤ N) (n2 : N ≤ 24) (hl : rs.length ≤ 60) (hr : ∀ r ∈ rs, ruOk (N : Int) r = true) : skOk (N : Int) rs = true := by
  unfold skOk
  rw [decide_eq_true (p := 1 ≤ (N : Int) ∧ (N : Int) ≤ 24) ⟨by omega, by omega⟩, decide_eq_true (p := rs.length ≤ 60) hl, Bool.true_and, Bool.true_and, List.all_eq_true]
  exact hr
end Go.Proofs.Ytchdmigeopmacaa
