/-
  Links and own shares of masses; right masses by the model; what a sway is, by plain lists.
-/
import Derived.Test.YtgocgcnpgmamiaaSpP
import Derived.Test.YtgocgcnpgmamiaaFlNum
namespace Go.Proofs.Ytgocgcnpgmamiaa
open Go.ChangeShapes Go.WideShapes Go.ChangeAt Go.RowKit
set_option linter.unusedVariables false
set_option linter.unusedSimpArgs false
attribute [local go_sem] run_store_flt run_store_cpx

def fneg (a : Option Nat) : Option Nat := a.map (Op.negFloat .f64)
theorem nan_rung (f : Ieee.Format) (x : Nat) : (f.read x).isNaN = (decide (f.binade ≤ x % f.signWeight) && decide (f.infRung < x % f.signWeight)) := by
  unfold Ieee.Format.read
  dsimp only
  split
  · rename_i h; rw [decide_eq_false (by omega)]; rfl
  · rename_i h
    rw [decide_eq_true (by omega), Bool.true_and]
    split
    · rename_i h2; rw [decide_eq_false (by omega)]; rfl
    · rename_i h2
      split
      · rename_i h3; rw [decide_eq_false (by omega)]; rfl
      · rename_i h3; rw [decide_eq_true (by omega)]; rfl
theorem fv_neg (x : Nat) : Fv .f64 (Op.negFloat .f64 x) = fneg (Fv .f64 x) := by
  have h : Op.negFloat .f64 x % FloatKind.f64.format.signWeight = x % FloatKind.f64.format.signWeight := by
    show (x ^^^ 2 ^ 63) % 2 ^ 63 = x % 2 ^ 63
    rw [Nat.xor_mod_two_pow, Nat.mod_self, Nat.xor_zero]
  unfold Fv fneg
  rw [nan_rung, nan_rung, h]
  split <;> rfl
/-- a mass's link and its own share -/
def lnk (x1 x2 wb : Nat) : Tn := (Fv .f64 x2, fm (Fv .f64 wb) (Fv .f64 x1))
def own_ (x0 wb : Nat) : Tn := (fneg (fm (fm (Fv .f64 wb) (Fv .f64 wb)) (Fv .f64 x0)), some 0)
def lk (L : List Nat) (wb i : Nat) : Tn := lnk (L.getD (i * 3 + 1) 0) (L.getD (i * 3 + 2) 0) wb
def ow (L : List Nat) (wb i : Nat) : Tn := own_ (L.getD (i * 3) 0) wb
/-- what a mass and all that it hangs from hold -/
def drg (L : List Nat) (wb : Nat) : Nat → Tn
  | 0 => tadd (ow L wb 0) (lk L wb 0)
  | i + 1 => tadd (ow L wb (i + 1)) (tshare (tmul (lk L wb (i + 1)) (drg L wb i)) (tadd (drg L wb i) (lk L wb (i + 1))))
/-- the sways, from the last one back -/
def swf (L : List Nat) (wb last : Nat) : Nat → Tn
  | 0 => tdiv (some 4607182418800017408, some 0) (drg L wb last)
  | d + 1 => tshare (tmul (lk L wb (last - d)) (swf L wb last d)) (tadd (drg L wb (last - d - 1)) (lk L wb (last - d)))
/-- the sways of the last d masses, part by part -/
def sfx (L : List Nat) (wb last : Nat) : Nat → List (Option Nat)
  | 0 => []
  | d + 1 => (swf L wb last d).1 :: (swf L wb last d).2 :: sfx L wb last d
theorem sfx_len (L : List Nat) (wb last d : Nat) : (sfx L wb last d).length = d * 2 := by
  induction d with
  | zero => rfl
  | succ d ih => simp [sfx, ih]; omega
theorem lk_at {L : List Nat} {i x1 x2 : Nat} (wb : Nat) (h1 : L[i * 3 + 1]? = some x1) (h2 : L[i * 3 + 2]? = some x2) : lk L wb i = lnk x1 x2 wb := by
  unfold lk
  simp only [List.getD_eq_getElem?_getD, h1, h2, Option.getD_some]
theorem ow_at {L : List Nat} {i x0 : Nat} (wb : Nat) (h0 : L[i * 3]? = some x0) : ow L wb i = own_ x0 wb := by
  unfold ow
  simp only [List.getD_eq_getElem?_getD, h0, Option.getD_some]
/-- right masses and a right pulse -/
def swOk (n : Nat) (L : List Nat) (wb : Nat) : Bool := decide (1 ≤ n) && decide (n ≤ 20) && pls wb && (List.range n).all (msOk L)

theorem linkM (x0 x1 x2 wb : Nat) (w : World) :
    Calls Try.prog 48 #[.agg #[.float .f64 x0, .float .f64 x1, .float .f64 x2], .float .f64 wb] w fun e w' => (∃ re im, e = .returned (.agg #[.float .f64 re, .float .f64 im]) ∧ tv re im = lnk x1 x2 wb) ∧ Below w.heap.size w w' := by
  go_enter Try.func48, Try.ntmps48
  go_wp2_with (refine upon_flt (by simp) ?_; intro _ _ _)
  refine bodyPost_ret (by simp [results, Try.results48, go_sem]; exact ⟨rfl, rfl⟩) rfl ⟨⟨_, _, rfl, by simp [tv, lnk, fm, *]⟩, ?_⟩
  repeat (first | exact Below.refl _ _ | refine ba ?_ _ | refine bel_dn' ?_ _ | refine bs ?_ (by omega))
theorem ownM (x0 x1 x2 wb : Nat) (w : World) :
    Calls Try.prog 47 #[.agg #[.float .f64 x0, .float .f64 x1, .float .f64 x2], .float .f64 wb] w fun e w' => (∃ re im, e = .returned (.agg #[.float .f64 re, .float .f64 im]) ∧ tv re im = own_ x0 wb) ∧ Below w.heap.size w w' := by
  have ng : ∀ (x : Nat) (W : World), (Op.unary .neg (.float .f64 x)).run Try.prog W = .ok (.float .f64 (Op.negFloat .f64 x)) W := fun x W => rfl
  go_enter Try.func47, Try.ntmps47
  go_wp2_with (refine upon_flt (by simp) ?_; intro _ _ _)
  refine bodyPost_ret (by simp [results, Try.results47, go_sem]; exact ⟨rfl, rfl⟩) rfl ⟨⟨_, _, rfl, by simp [tv, own_, fv_neg, fm, fv0, *]⟩, ?_⟩
  repeat (first | exact Below.refl _ _ | refine ba ?_ _ | refine bel_dn' ?_ _ | refine bs ?_ (by omega))
set_option maxHeartbeats 1000000 in
theorem masM (u : Option Addr) (p po n c : Nat) (L : List Nat) (wb : Nat) (w : World) (hl : L.length = n * 3) (hn : n ≤ 9223372036854775807) (hu : Fls .f64 w u p po L) :
    Calls Try.prog 38 #[.slice u n c, .float .f64 wb] w fun e w' => e = .returned (.bool (swOk n L wb)) ∧ Below w.heap.size w w' := by
  have HU := hide hu
  have HL := hide hl
  have n0 : (0 : Int) ≤ (n : Int) := Int.natCast_nonneg _
  clear hu hl
  by_cases h1 : 1 ≤ n
  · by_cases h2 : n ≤ 20
    · have t1 : decide ((n : Int) < 1) = false := decide_eq_false (by omega)
      have t2 : decide ((20 : Int) < (n : Int)) = false := decide_eq_false (by omega)
      go_enter Try.func38, Try.ntmps38
      go_wp2_with fail
      refine (withinM wb _ _ _).mono ?_
      rintro e w' ⟨rfl, rfl⟩
      cases hp : fin .f64 (Fv .f64 wb) (Fv .f64 0) (Fv .f64 4696837146684686336) with
      | false =>
        go_wp2_with fail
        go_ret
        exact ⟨by unfold swOk pls; rw [hp]; simp, Below.refl _ _⟩
      | true =>
        have HP : Hid (swOk n L wb = (List.range n).all (msOk L)) := hide (by unfold swOk pls; rw [hp, decide_eq_true h1, decide_eq_true h2]; rfl)
        clear hp
        go_wp2_with fail
        go_loopw [5] (fun s W => ∃ i : Nat, s = .int .i64 (i : Int) ∧ i ≤ n ∧ (List.range i).all (msOk L) = true ∧ Below w'.heap.size w' W) (fun s _ => n - (intOf s).toNat)
        case atStart => exact ⟨0, rfl, Nat.zero_le _, by simp, Below.refl _ _⟩
        case round =>
          obtain ⟨i, rfl, hi, ha, hw⟩ := hrel
          have HA := hide ha
          have HW := hide hw
          clear ha hw
          by_cases h : i < n
          · have i1 : (i : Int) < (n : Int) := by omega
            have i0 : (0 : Int) ≤ (i : Int) := Int.natCast_nonneg _
            have iz : decide ((i : Int) < (n : Int)) = true := decide_eq_true i1
            obtain ⟨x0, x1, x2, e0, e1, e2, rfl, pw, k0, k1, k2⟩ := ((unhide HU).bel (unhide HW)).mass (unhide HL) h
            have HM := hide (msOk_at e0 e1 e2)
            clear pw e0 e1 e2
            go_wp2_with fail
            refine (withinM x0 _ _ _).mono ?_
            rintro e w1 ⟨rfl, rfl⟩
            cases q0 : fin .f64 (Fv .f64 x0) (Fv .f64 4562254508917369340) (Fv .f64 4696837146684686336) with
            | false =>
              go_wp2_with fail
              go_ret
              exact ⟨by rw [unhide HP, range_not _ h (by rw [unhide HM]; unfold ms3 mko; rw [q0]; rfl)]; rfl, ba (unhide HW) _⟩
            | true =>
              go_wp2_with fail
              refine (withinM x1 _ _ _).mono ?_
              rintro e w1 ⟨rfl, rfl⟩
              cases q1 : fin .f64 (Fv .f64 x1) (Fv .f64 0) (Fv .f64 4696837146684686336) with
              | false =>
                go_wp2_with fail
                go_ret
                exact ⟨by rw [unhide HP, range_not _ h (by rw [unhide HM]; unfold ms3 pls; rw [q1]; simp)]; rfl, ba (unhide HW) _⟩
              | true =>
                go_wp2_with fail
                refine (withinM x2 _ _ _).mono ?_
                rintro e w1 ⟨rfl, rfl⟩
                cases q2 : fin .f64 (Fv .f64 x2) (Fv .f64 4562254508917369340) (Fv .f64 4696837146684686336) with
                | false =>
                  go_wp2_with fail
                  go_ret
                  exact ⟨by rw [unhide HP, range_not _ h (by rw [unhide HM]; unfold ms3 mko; rw [q2]; simp)]; rfl, ba (unhide HW) _⟩
                | true =>
                  go_wp2_with fail
                  go_roundw
                  case rel => exact ⟨i + 1, by simp, h, by rw [range_all, unhide HA, unhide HM]; unfold ms3 mko pls; rw [q0, q1, q2]; rfl, ba (unhide HW) _⟩
                  case measure => simp only [intOf]; omega
          · have iz : decide ((i : Int) < (n : Int)) = false := decide_eq_false (by omega)
            have HE : Hid ((List.range n).all (msOk L) = true) := hide (by have := unhide HA; rwa [show i = n by omega] at this)
            go_wp2_with fail
            go_ret
            exact ⟨by rw [unhide HP, unhide HE]; rfl, unhide HW⟩
    · have t1 : decide ((n : Int) < 1) = false := decide_eq_false (by omega)
      have t2 : decide ((20 : Int) < (n : Int)) = true := decide_eq_true (by omega)
      go_enter Try.func38, Try.ntmps38
      go_wp2_with fail
      go_ret
      exact ⟨by unfold swOk; rw [decide_eq_false h2]; simp, Below.refl _ _⟩
  · have t1 : decide ((n : Int) < 1) = true := decide_eq_true (by omega)
    go_enter Try.func38, Try.ntmps38
    go_wp2_with fail
    go_ret
    exact ⟨by unfold swOk; rw [decide_eq_false h1]; simp, Below.refl _ _⟩
end Go.Proofs.Ytgocgcnpgmamiaa
