/-
  The law's own helpers: whether two rows of numbers are the same; a number without its sign.
-/
import Derived.Test.YtdneepojgklciaaItRows
import Derived.Test.YtdneepojgklciaaStp
import Derived.Test.YtdneepojgklciaaSou
namespace Go.Proofs.Ytdneepojgklciaa
open Go.ChangeShapes Go.WideShapes Go.ChangeAt Go.RowKit
set_option linter.unusedVariables false
set_option linter.unusedSimpArgs false

theorem absL_any (x : Int) (w : World) (h0 : -1000000 ≤ x) (h1 : x ≤ 1000000) : Calls Try.prog 11 #[.int .i64 x] w fun e w' => e = .returned (.int .i64 (ab x)) ∧ w' = w := by
  unfold ab
  by_cases h : x < 0
  · have t : decide (x < 0) = true := decide_eq_true h
    rw [if_pos h]
    go_enter Try.func11, Try.ntmps11
    go_wp2
    go_ret
    exact ⟨rfl, rfl⟩
  · have t : decide (x < 0) = false := decide_eq_false h
    rw [if_neg h]
    go_enter Try.func11, Try.ntmps11
    go_wp2
    go_ret
    exact ⟨rfl, rfl⟩
set_option maxHeartbeats 1000000 in
theorem sm_same (u v : Option Addr) (p po q qo n cu cv : Nat) (L : List Int) (w : World) (hl : L.length = n) (hn : n ≤ 1048576)
    (hu : Its w u p po L) (hv : Its w v q qo L) :
    Calls Try.prog 10 #[.slice u n cu, .slice v n cv] w fun e w' => e = .returned (.bool true) ∧ Below w.heap.size w w' := by
  have HU := hide hu
  have HV := hide hv
  have HL := hide hl
  clear hu hv hl
  go_enter Try.func10, Try.ntmps10
  go_wp2
  go_loopw [5] (fun s W => ∃ i : Nat, s = .int .i64 (i : Int) ∧ i ≤ n ∧ Below w.heap.size w W) (fun s _ => n - (intOf s).toNat)
  case atStart => exact ⟨0, rfl, Nat.zero_le _, Below.refl _ _⟩
  case round =>
    obtain ⟨i, rfl, hi, hw⟩ := hrel
    have HW := hide hw
    clear hw
    by_cases h : i < n
    · have i1 : (i : Int) < (n : Int) := by omega
      have i0 : (0 : Int) ≤ (i : Int) := Int.natCast_nonneg _
      have iz : decide ((i : Int) < (n : Int)) = true := decide_eq_true i1
      obtain ⟨x, hx⟩ := get_some (unhide HL) h
      obtain ⟨rfl, pw, k0⟩ := ((unhide HU).bel (unhide HW)).at hx
      obtain ⟨rfl, qw, l0⟩ := ((unhide HV).bel (unhide HW)).at hx
      have xx : (x != x) = false := by simp
      clear pw qw hx
      go_wp2_with fail
      go_quiet (fail)
      go_wp2_with fail
      go_roundw
      case rel => exact ⟨i + 1, by simp, h, by repeat (first | exact unhide HW | refine bel_dn' ?_ _ | refine Below.drew ?_)⟩
      case measure => simp only [intOf]; omega
    · have i1 : ¬ (i : Int) < (n : Int) := by omega
      have iz : decide ((i : Int) < (n : Int)) = false := decide_eq_false i1
      go_wp2_with fail
      go_ret
      exact ⟨rfl, unhide HW⟩

theorem Code.up {B B' : Nat} {w : World} {a : Option Addr} {len cap : Nat} {zs : List Int} (h : Code B w a len cap zs) (hB : B ≤ B') : Code B' w a len cap zs := by
  rcases h with h | ⟨b, off, rfl, h1, r⟩
  · exact .inl h
  · exact .inr ⟨b, off, rfl, Nat.lt_of_lt_of_le h1 hB, r⟩
/-- the number that is told i-th -/
theorem way_nth {P : List (Int × Int)} {f : Int × Int} {i b : Nat} (h1 : (wayN P f (i + 1)).1 = (wayN P f i).1 ++ [b]) (hl : (wayN P f i).1.length = i) : ∀ m, (wayN P f (i + 1 + m)).1[i]? = some b
  | 0 => by
    show (wayN P f (i + 1)).1[i]? = some b
    rw [h1, List.getElem?_append_right (by omega), hl, Nat.sub_self]; rfl
  | m + 1 => by
    have ih := way_nth h1 hl m
    show (stepW P (wayN P f (i + 1 + m))).1[i]? = some b
    unfold stepW
    split
    · exact ih
    · rw [List.getElem?_append_left (List.getElem?_eq_some_iff.1 ih).1]; exact ih
end Go.Proofs.Ytdneepojgklciaa
