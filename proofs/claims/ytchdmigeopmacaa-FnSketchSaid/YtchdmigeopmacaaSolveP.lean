/-
  The program's SketchSolve: no sketch, rules that can not all be kept, rules that can.
-/
import Derived.Test.YtchdmigeopmacaaLowest
import Derived.Test.YtchdmigeopmacaaKeeps
import Derived.Test.YtchdmigeopmacaaCoreMath
namespace Go.Proofs.Ytchdmigeopmacaa
open Go.ChangeShapes Go.WideShapes Go.ChangeAt Go.RowKit
set_option linter.unusedVariables false
set_option linter.unusedSimpArgs false

theorem solveP_bad (n : Int) (u : Option Addr) (l c : Nat) (w : World)
    (HOKP : Hid (∀ W, Below w.heap.size w W → Calls Try.prog 21 #[skv n u l c] W fun e w' => e = .returned (.bool false) ∧ Below W.heap.size W w')) :
    Calls Try.prog 7 #[skv n u l c] w fun e w' => e = .returned (.tuple #[.slice none 0 0, .int .i64 1, .slice none 0 0]) ∧ Below w.heap.size w w' := by
  go_enter Try.func7, Try.ntmps7
  go_wp2_with fail
  refine (unhide HOKP _ (ba (Below.refl _ _) _)).mono ?_
  rintro e W1 ⟨rfl, hb1⟩
  have HB1 := hide (bc (ba (Below.refl _ _) _) hb1)
  clear hb1
  go_wp2_with fail
  exact bodyPost_ret (v := .tuple #[.slice none 0 0, .int .i64 1, .slice none 0 0]) (by simp [results, Try.results7, go_sem]) rfl ⟨rfl, unhide HB1⟩
theorem solveP_core (n : Int) (u : Option Addr) (l c : Nat) (C : List Nat) (w : World)
    (HOKP : Hid (∀ W, Below w.heap.size w W → Calls Try.prog 21 #[skv n u l c] W fun e w' => e = .returned (.bool true) ∧ Below W.heap.size W w'))
    (HLOW : Hid (∀ W, Below w.heap.size w W → Calls Try.prog 22 #[.int .i64 n, .slice u l c] W fun e w' => (∃ v, e = .returned (.tuple #[v, .bool false])) ∧ Below W.heap.size W w'))
    (HCORE : Hid (∀ W, Below w.heap.size w W → Calls Try.prog 23 #[skv n u l c] W fun e w' => ∃ v, e = .returned v ∧ Row w' (W.heap.size + 1) 3 1 v C.length (nats C) ∧ Below W.heap.size W w')) :
    Calls Try.prog 7 #[skv n u l c] w fun e w' => ∃ v, e = .returned (.tuple #[.slice none 0 0, .int .i64 15, v]) ∧ Row w' w.heap.size 3 1 v C.length (nats C) ∧ Below w.heap.size w w' := by
  go_enter Try.func7, Try.ntmps7
  go_wp2_with fail
  refine (unhide HOKP _ (ba (Below.refl _ _) _)).mono ?_
  rintro e W1 ⟨rfl, hb1⟩
  have a0 : W1.cell? ⟨w.heap.size, 0, none⟩ = some (.int .i64 n) := keep1 hb1 (by simp [go_sem])
  have a1 : W1.cell? ⟨w.heap.size, 1, none⟩ = some (.slice u l c) := keep1 hb1 (by simp [go_sem])
  have HB1 := hide (bc (ba (Below.refl _ _) _) hb1)
  clear hb1
  go_wp2_with fail
  refine (unhide HLOW _ (unhide HB1)).mono ?_
  rintro e W2 ⟨⟨v2, rfl⟩, hb2⟩
  have b0 := keep1 hb2 a0
  have b1 := keep1 hb2 a1
  have HB2 := hide (bc (unhide HB1) hb2)
  clear hb2 a0 a1
  go_wp2_with fail
  refine (unhide HCORE _ (unhide HB2)).mono ?_
  rintro e W3 ⟨v3, rfl, hr3, hb3⟩
  have HB3 := hide (bc (unhide HB2) hb3)
  have HR3 := hide (hr3.mono (show w.heap.size ≤ W2.heap.size + 1 by have := (unhide HB2).size; omega))
  clear hb3 hr3
  go_wp2_with fail
  exact bodyPost_ret (v := .tuple #[.slice none 0 0, .int .i64 15, v3]) (by simp [results, Try.results7, go_sem]) rfl ⟨_, rfl, unhide HR3, unhide HB3⟩

/-- the points of a row of coordinates behind nothing -/
def ptsP (A : List Int) (n : Nat) : List Int := (List.range n).flatMap fun i => [gt A (2 * i + 1), gt A (2 * i + 2)]
theorem ptsP_succ (A : List Int) (n : Nat) : ptsP A (n + 1) = ptsP A n ++ [gt A (2 * n + 1), gt A (2 * n + 2)] := by simp [ptsP, List.range_succ]
theorem ptsP_len (A : List Int) (n : Nat) : (ptsP A n).length = n * 2 := by
  induction n with
  | zero => rfl
  | succ n ih => rw [ptsP_succ]; simp [ih]; omega
theorem ptsP_at (A : List Int) (n i : Nat) (h : i < n) : (ptsP A n)[i * 2]? = some (gt A (2 * i + 1)) ∧ (ptsP A n)[i * 2 + 1]? = some (gt A (2 * i + 2)) := by
  induction n with
  | zero => omega
  | succ n ih =>
    rw [ptsP_succ]
    by_cases hi : i < n
    · have := ih hi
      rw [List.getElem?_append_left (by rw [ptsP_len]; omega), List.getElem?_append_left (by rw [ptsP_len]; omega)]
      exact this
    · have e : i = n := by omega
      subst e
      rw [List.getElem?_append_right (by rw [ptsP_len]; omega), List.getElem?_append_right (by rw [ptsP_len]; omega), ptsP_len]
      simp
set_option maxHeartbeats 2000000 in
set_option maxRecDepth 100000 in
theorem solveP_kept (N n : Nat) (u : Option Addr) (l c : Nat) (A : List Int) (w : World) (h1 : 1 ≤ N) (h2 : N ≤ 24) (hn : n = 2 * N + 1) (HAL : Hid (A.length = n))
    (HOKP : Hid (∀ W, Below w.heap.size w W → Calls Try.prog 21 #[skv (N : Int) u l c] W fun e w' => e = .returned (.bool true) ∧ Below W.heap.size W w'))
    (HLOW : Hid (∀ W, Below w.heap.size w W → Calls Try.prog 22 #[.int .i64 (N : Int), .slice u l c] W fun e w' => ∃ g, e = .returned (.tuple #[.slice (some ⟨g, 0, none⟩) n n, .bool true]) ∧ W.heap.size ≤ g ∧ iblk w' g 3 A ∧ Below W.heap.size W w')) :
    Calls Try.prog 7 #[skv (N : Int) u l c] w fun e w' => ∃ g, e = .returned (.tuple #[.slice (some ⟨g, 0, none⟩) N N, .int .i64 0, .slice none 0 0]) ∧ w.heap.size ≤ g ∧ iblk w' g 42 (ptsP A N) ∧ Below w.heap.size w w' := by
  have hmk := fun W => make_ints (P := Try.prog) 27 42 2 16 N Try.underlying27 (.agg #[.int .i64 0, .int .i64 0]) (by rfl) (by omega) info47 (by omega) (by omega) W
  generalize hL : ptsP A N = L
  have HLL : Hid (L.length = N * 2) := hide (by rw [← hL, ptsP_len])
  have HFL := hide hL
  have HNN := hide hn
  clear hL hn
  generalize hzz : zeros (N * 2) = Z at hmk
  have HZ := hide hzz
  clear hzz
  go_enter Try.func7, Try.ntmps7
  go_wp2_with fail
  refine (unhide HOKP _ (ba (Below.refl _ _) _)).mono ?_
  rintro e W1 ⟨rfl, hb1⟩
  have a0 : W1.cell? ⟨w.heap.size, 0, none⟩ = some (.int .i64 (N : Int)) := keep1 hb1 (by simp [go_sem])
  have a1 : W1.cell? ⟨w.heap.size, 1, none⟩ = some (.slice u l c) := keep1 hb1 (by simp [go_sem])
  have HB1 := hide (bc (ba (Below.refl _ _) _) hb1)
  clear hb1
  go_wp2_with fail
  refine (unhide HLOW _ (unhide HB1)).mono ?_
  rintro e W2 ⟨ga, rfl, hga, hka, hb2⟩
  have b0 := keep1 hb2 a0
  have HB2 := hide (bc (unhide HB1) hb2)
  have HKA := hide hka
  have ltga := hka.lt
  have lt2 := cell_lt b0
  clear hb2 a0 a1 hka hga
  go_wp2_with fail
  have HG := hide (iblk_new W2 42 Z)
  have HB3 := hide (ba (Below.refl W2.heap.size W2) (.cells (Z.map (Value.int .i64)).toArray 42))
  clear hmk
  generalize hW3 : W2.alloc (.cells (Z.map (Value.int .i64)).toArray 42) = W3 at HG HB3
  go_loopw [29] (fun s W => ∃ i : Nat, s = .int .i64 (i : Int) ∧ i ≤ N ∧ iblk W W2.heap.size 42 (L.take (i * 2) ++ zeros (L.length - i * 2)) ∧ But W2.heap.size W3 W) (fun s _ => N - (intOf s).toNat)
  case atStart =>
    refine ⟨0, rfl, Nat.zero_le _, ?_, But.refl _ _⟩
    have e : L.take (0 * 2) ++ zeros (L.length - 0 * 2) = Z := by rw [unhide HLL, ← unhide HZ]; simp
    rw [e]
    exact unhide HG
  case round =>
    obtain ⟨i, rfl, hi, hb, hw⟩ := hrel
    have HB := hide hb
    have HW := hide hw
    clear hb hw
    by_cases h : i < N
    · have i1 : (i : Int) < (N : Int) := by omega
      have i0 : (0 : Int) ≤ (i : Int) := Int.natCast_nonneg _
      have iz : decide ((i : Int) < (N : Int)) = true := decide_eq_true i1
      have hnn := unhide HNN
      have ix1 : 2 * (i : Int) + 1 < (n : Int) := by omega
      have ix2 : (0 : Int) ≤ 2 * (i : Int) + 1 := by omega
      have iy1 : 2 * (i : Int) + 2 < (n : Int) := by omega
      have iy2 : (0 : Int) ≤ 2 * (i : Int) + 2 := by omega
      have tx : (2 * (i : Int) + 1).toNat = 2 * i + 1 := by omega
      have ty : (2 * (i : Int) + 2).toNat = 2 * i + 2 := by omega
      have HXO := hide (fun W => xOf_any (i : Int) W (by omega) (by omega))
      have HYO := hide (fun W => yOf_any (i : Int) W (by omega) (by omega))
      have HBW := hide (show Below W2.heap.size W2 wr from (unhide HB3).trans ((unhide HW).bel (Nat.le_refl _)))
      have mx : wr.cell? ⟨ga, 2 * i + 1, none⟩ = some (.int .i64 (gt A (2 * i + 1))) := keep1 (unhide HBW) ((unhide HKA).cell (gt_some (by rw [unhide HAL]; omega)))
      have my : wr.cell? ⟨ga, 2 * i + 2, none⟩ = some (.int .i64 (gt A (2 * i + 2))) := keep1 (unhide HBW) ((unhide HKA).cell (gt_some (by rw [unhide HAL]; omega)))
      obtain ⟨f0, f1⟩ := ptsP_at A N i h
      rw [unhide HFL] at f0 f1
      have F0 := hide f0
      have F1 := hide f1
      have pb := unhide HB
      have j0 : i * 2 + 0 < L.length := by rw [unhide HLL]; exact mul_lt_of h (by omega)
      have j1 : i * 2 + 1 < L.length := by rw [unhide HLL]; exact mul_lt_of h (by omega)
      have m0 : wr.cell? ⟨W2.heap.size, i * 2, none⟩ = some (.int .i64 0) := pb.cell (fill_at L (i * 2) 0 j0)
      have m1 : wr.cell? ⟨W2.heap.size, i * 2 + 1, none⟩ = some (.int .i64 0) := pb.cell (fill_at L (i * 2) 1 j1)
      have fz : ∀ o, wr.frozen? ⟨W2.heap.size, o, none⟩ = false := pb.frozen
      have HJ := hide (And.intro j0 j1)
      clear f0 f1 pb j0 j1 hnn
      generalize gt A (2 * i + 1) = X at *
      generalize gt A (2 * i + 2) = Y at *
      go_wp2_with fail
      go_region_held3 (fun wx => wx.cell? ⟨ga, 2 * i + 1, none⟩ = some (.int .i64 X) ∧ wx.cell? ⟨ga, 2 * i + 2, none⟩ = some (.int .i64 Y))
        (simp (maxDischargeDepth := 12) [go_sem, le1, lt1, *])
        (first
        | (go_at_call 24; refine (unhide HXO _).mono ?_; rintro e w' ⟨rfl, rfl⟩)
        | (go_at_call 25; refine (unhide HYO _).mono ?_; rintro e w' ⟨rfl, rfl⟩))
      all_goals
        go_wp2_with fail
        go_roundw
        case rel =>
          obtain ⟨j0, j1⟩ := unhide HJ
          refine ⟨i + 1, by simp, h, ?_, ?_⟩
          · have h1 := ((unhide HB).set (i * 2) X).set (i * 2 + 1) Y
            rw [fill_step L (i * 2) j0 _ (unhide F0), fill_step L (i * 2 + 1) j1 _ (unhide F1)] at h1
            rw [show (i + 1) * 2 = i * 2 + 2 by omega]
            exact h1
          · first
            | exact ((unhide HW).setCell _ _).setCell _ _
            | exact (((unhide HW).setCell _ _).setCell _ _).drew
            | exact ((unhide HW).drew.setCell _ _).setCell _ _
        case measure => simp only [intOf]; omega
    · have i1 : ¬ (i : Int) < (N : Int) := by omega
      have iz : decide ((i : Int) < (N : Int)) = false := decide_eq_false i1
      have en : i = N := by omega
      subst en
      have HBW := hide (show Below W2.heap.size W2 wr from (unhide HB3).trans ((unhide HW).bel (Nat.le_refl _)))
      go_wp2_with fail
      refine bodyPost_ret (v := .tuple #[.slice (some ⟨W2.heap.size, 0, none⟩) i i, .int .i64 0, .slice none 0 0]) (by simp [results, Try.results7, go_sem]) rfl ⟨_, rfl, (unhide HB2).size, ?_, bc (unhide HB2) (unhide HBW)⟩
      have h1 := unhide HB
      rw [List.take_of_length_le (by rw [unhide HLL]; omega), show L.length - i * 2 = 0 by rw [unhide HLL]; omega] at h1
      simpa [zeros] using h1
end Go.Proofs.Ytchdmigeopmacaa
