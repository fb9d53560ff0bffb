/-
  The model's numbers of all rules, and its least points.
-/
import Derived.Test.YtchdmigeopmacaaOwn
import Derived.Deep.RegionLaw
import Derived.Deep.AppendLies
namespace Go.Proofs.Ytchdmigeopmacaa
open Go.ChangeShapes Go.WideShapes Go.ChangeAt Go.RowKit
set_option linter.unusedVariables false
set_option linter.unusedSimpArgs false

theorem info3k : (Try.prog.info? 3).map (fun i => (i.zero, i.size, i.bytes)) = some (some (.int .i64 0), 1, 8) := by kernel_rfl
theorem info47 : (Try.prog.info? 42).map (fun i => (i.zero, i.size, i.bytes)) = some (some (.agg #[.int .i64 0, .int .i64 0]), 2, 16) := by kernel_rfl
theorem nats_range (i : Nat) : nats (List.range (i + 1)) = nats (List.range i) ++ [(i : Int)] := by simp [nats, List.range_succ]

set_option maxHeartbeats 1000000 in
theorem all_any (n : Int) (u : Option Addr) (l c : Nat) (w : World) (hl : l ≤ 60) :
    Calls Try.prog 26 #[skv n u l c] w fun e w' => ∃ v, e = .returned v ∧ Row w' (w.heap.size + 1) 3 1 v l (nats (List.range l)) ∧ Below w.heap.size w w' := by
  obtain ⟨i0, hi, hz0, hz1, hz2⟩ := info_parts info3k
  go_enter Try.func26, Try.ntmps26
  go_wp2_with fail
  go_loopw [3, 4] (fun v s W => ∃ i : Nat, s = .int .i64 (i : Int) ∧ i ≤ l ∧ Row W (w.heap.size + 1) 3 1 v i (nats (List.range i)) ∧ W.cell? ⟨w.heap.size, 0, none⟩ = some (.int .i64 n) ∧ W.cell? ⟨w.heap.size, 1, none⟩ = some (.slice u l c) ∧ Below w.heap.size w W) (fun _ s _ => l - (intOf s).toNat)
  case atStart => exact ⟨0, rfl, Nat.zero_le _, row_made _ 3 _ 1 (by simp) _ (by simp), by simp [go_sem], by simp [go_sem], ba (ba (Below.refl _ _) _) _⟩
  case round =>
    obtain ⟨i, rfl, hil, hrow, z0, z1, hw⟩ := hrel
    have HW := hide hw
    have HR := hide hrow
    have lt0 := cell_lt z0
    clear hw hrow
    by_cases h : i < l
    · have i1 : (i : Int) < (l : Int) := by omega
      have iz : decide ((i : Int) < (l : Int)) = true := decide_eq_true i1
      go_wp2_with (at_builtin; refine unhide ?_)
      refine hide ?_
      refine wpList_append_own _ rfl _ _ 28 rfl (w.heap.size + 1) 3 i0 _ 1 8 Try.underlying28 hi hz0 hz1 hz2 rfl (by decide) _ _ _ rfl ((unhide HR).alloc _) _ 1 1 ([(i : Int)].map (Value.int .i64)) rfl rfl (by first | exact news_cells _ _ (by simp) | exact news_drew _ _ (by simp)) ints_one (by unfold maxLen; omega) (by omega) (by simp; omega) ?_
      intro v' w1 hown' hgrow _
      have R := hide (own_more (wr := wr) (news := [(i : Int)]) (by repeat (first | exact Below.refl _ _ | refine Below.alloc ?_ (by first | omega | (simp; omega)) _ | refine Below.drew ?_)) (by simp; omega) (unhide HR) hown' hgrow)
      have y0 := (unhide R).2.cell (p := ⟨w.heap.size, 0, none⟩) (by simp)
      have y1 := (unhide R).2.cell (p := ⟨w.heap.size, 1, none⟩) (by simp)
      rw [z0] at y0
      rw [z1] at y1
      clear hown' hgrow
      go_wp2_with fail
      go_roundw
      case rel =>
        refine ⟨i + 1, by simp, h, ?_, y0, y1, (unhide HW).trans ((unhide R).2.mono (by omega))⟩
        rw [nats_range]
        exact (unhide R).1
      case measure => simp only [intOf]; omega
    · have i1 : ¬ (i : Int) < (l : Int) := by omega
      have iz : decide ((i : Int) < (l : Int)) = false := decide_eq_false i1
      have en : i = l := by omega
      subst en
      go_wp2_with fail
      go_ret
      exact ⟨_, rfl, unhide HR, unhide HW⟩

/-- the points of two rows of coordinates -/
def ptsOf (x y : List Int) (n : Nat) : List Int := (List.range n).flatMap fun i => [gt x i, gt y i]
theorem ptsOf_succ (x y : List Int) (n : Nat) : ptsOf x y (n + 1) = ptsOf x y n ++ [gt x n, gt y n] := by simp [ptsOf, List.range_succ]
theorem gtk_some {a : List Int} {i : Nat} (h : i < a.length) : a[i]? = some (gt a i) := by
  unfold gt
  rw [List.getD_eq_getElem?_getD, List.getElem?_eq_getElem h]
  rfl

set_option maxHeartbeats 2000000 in
set_option maxRecDepth 100000 in
theorem keeps_core (N : Nat) (vk : Value) (u : Option Addr) (l c : Nat) (Ax Ay : List Int) (bx by_ : Bool) (w : World) (h1 : 1 ≤ N) (h2 : N ≤ 24) (HAX : Hid (Ax.length = N + 1)) (HAY : Hid (Ay.length = N + 1))
    (HX : Hid (∀ W, Below w.heap.size w W → Calls Try.prog 52 #[skv (N : Int) u l c, vk, .int .i64 0] W fun e w' => ∃ g, e = .returned (.tuple #[.slice (some ⟨g, 0, none⟩) (N + 1) (N + 1), .bool bx]) ∧ W.heap.size ≤ g ∧ iblk w' g 3 Ax ∧ Below W.heap.size W w'))
    (HY : Hid (∀ W, Below w.heap.size w W → Calls Try.prog 52 #[skv (N : Int) u l c, vk, .int .i64 1] W fun e w' => ∃ g, e = .returned (.tuple #[.slice (some ⟨g, 0, none⟩) (N + 1) (N + 1), .bool by_]) ∧ W.heap.size ≤ g ∧ iblk w' g 3 Ay ∧ Below W.heap.size W w')) :
    Calls Try.prog 27 #[skv (N : Int) u l c, vk] w fun e w' => ∃ v, e = .returned (.tuple #[v, .bool (bx && by_)]) ∧ Row w' (w.heap.size + 1) 42 2 v N (ptsOf Ax Ay N) ∧ Below w.heap.size w w' := by
  obtain ⟨i0, hi, hz0, hz1, hz2⟩ := info_parts info47
  go_enter Try.func27, Try.ntmps27
  go_wp2_with fail
  refine (unhide HX _ (ba (Below.refl _ _) _)).mono ?_
  rintro e W1 ⟨gx, rfl, hgx, hkx, hb1⟩
  have a0 : W1.cell? ⟨w.heap.size, 0, none⟩ = some (.int .i64 (N : Int)) := keep1 hb1 (by simp [go_sem])
  have a1 : W1.cell? ⟨w.heap.size, 1, none⟩ = some (.slice u l c) := keep1 hb1 (by simp [go_sem])
  have HB1 := hide (bc (ba (Below.refl _ _) _) hb1)
  have HKX := hide hkx
  have hgx2 : w.heap.size + 1 ≤ gx := by simpa using hgx
  clear hb1 hkx hgx
  go_wp2_with fail
  refine (unhide HY _ (unhide HB1)).mono ?_
  rintro e W2 ⟨gy, rfl, hgy, hky, hb2⟩
  have b0 := keep1 hb2 a0
  have HKX2 := hide ((unhide HKX).bel hb2)
  have HB2 := hide (bc (unhide HB1) hb2)
  have HKY := hide hky
  have hsz := cell_lt b0
  have hgxl := (unhide HKX2).lt
  have hgyl := hky.lt
  have hgy2 : w.heap.size + 1 ≤ gy := by have := (unhide HKX).lt; omega
  clear hb2 hky hgy a0 a1
  go_wp2_with fail
  go_loopw [10, 11] (fun v s W => ∃ i : Nat, s = .int .i64 (i : Int) ∧ i ≤ N ∧ Row W W2.heap.size 42 2 v i (ptsOf Ax Ay i) ∧ Below W2.heap.size W2 W) (fun _ s _ => N - (intOf s).toNat)
  case atStart => exact ⟨0, rfl, Nat.zero_le _, row_made _ 42 _ 2 (by simp) _ (by simp), ba (Below.refl _ _) _⟩
  case round =>
    obtain ⟨i, rfl, hil, hrow, hw⟩ := hrel
    have z0 : wr.cell? ⟨w.heap.size, 0, none⟩ = some (.int .i64 (N : Int)) := keep1 hw b0
    have HW := hide hw
    have HR := hide hrow
    have hsz2 := hw.size
    clear hw hrow
    by_cases h : i < N
    · have i1 : (i : Int) < (N : Int) := by omega
      have i2 : (i : Int) < (N : Int) + 1 := by omega
      have i3 : (0 : Int) ≤ (i : Int) := Int.natCast_nonneg _
      have iz : decide ((i : Int) < (N : Int)) = true := decide_eq_true i1
      have kx : wr.cell? ⟨gx, i, none⟩ = some (.int .i64 (gt Ax i)) := keep1 (unhide HW) ((unhide HKX2).cell (gtk_some (by rw [unhide HAX]; omega)))
      have ky : wr.cell? ⟨gy, i, none⟩ = some (.int .i64 (gt Ay i)) := keep1 (unhide HW) ((unhide HKY).cell (gtk_some (by rw [unhide HAY]; omega)))
      have HPS := hide (ptsOf_succ Ax Ay i)
      generalize gt Ax i = X at *
      generalize gt Ay i = Y at *
      go_wp2_with fail
      go_region_law
        ((refine step_append_lies _ (by rfl) _ _ _ (by rfl) W2.heap.size 42 i0 _ 2 16 Try.underlying27 hi hz0 hz1 hz2 rfl (by omega) u10 i ((ptsOf Ax Ay i).map (Value.int .i64)) (by rfl) (by first | exact (unhide HR).alloc _ | exact ((unhide HR).alloc _).drew)
            ⟨wr.heap.size, 0, none⟩ 1 1 ([X, Y].map (Value.int .i64)) (by rfl) (by rfl) (by first | exact news_cells _ _ (by simp) | exact news_drew _ _ (by simp)) ints_one
            (by omega) (by unfold maxLen; omega) (by omega) (by simp; omega) (wr.heap.size + 1) (by simp) ?_; intro gg cap w1 hown' hgrow hat hlt; have R := hide (own_more (wr := wr) (news := [X, Y]) (by repeat (first | exact Below.refl _ _ | refine Below.alloc ?_ (by first | omega | (simp; omega)) _ | refine Below.drew ?_)) (by simp; omega) (unhide HR) hown' hgrow); clear hown' hgrow hat hlt))
      all_goals
        go_wp2_with fail
        go_roundw
        case rel =>
          refine ⟨i + 1, by simp, h, ?_, ?_⟩
          · rw [unhide HPS]
            exact (unhide R).1
          · exact (unhide HW).trans (unhide R).2
        case measure => simp only [intOf]; omega
    · have i1 : ¬ (i : Int) < (N : Int) := by omega
      have iz : decide ((i : Int) < (N : Int)) = false := decide_eq_false i1
      have en : i = N := by omega
      subst en
      cases bx with
      | true =>
        go_wp2_with fail
        exact bodyPost_ret (v := .tuple #[_, .bool (true && by_)]) (by simp [results, Try.results27, go_sem]) rfl ⟨_, rfl, (unhide HR).mono (by omega), (unhide HB2).trans ((unhide HW).mono (by omega))⟩
      | false =>
        go_wp2_with fail
        exact bodyPost_ret (v := .tuple #[_, .bool (false && by_)]) (by simp [results, Try.results27, go_sem]) rfl ⟨_, rfl, (unhide HR).mono (by omega), (unhide HB2).trans ((unhide HW).mono (by omega))⟩
end Go.Proofs.Ytchdmigeopmacaa
