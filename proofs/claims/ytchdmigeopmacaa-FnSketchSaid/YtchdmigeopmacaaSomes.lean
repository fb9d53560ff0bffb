/-
  The rules that numbers name, as the program picks them.
-/
import Derived.Test.YtchdmigeopmacaaOwn
namespace Go.Proofs.Ytchdmigeopmacaa
open Go.ChangeShapes Go.WideShapes Go.ChangeAt Go.RowKit
set_option linter.unusedVariables false
set_option linter.unusedSimpArgs false

/-- the rules' numbers one behind another -/
def flat4 (rs : List Ru) : List Int := rs.flatMap fun r => [r.1, r.2.1, r.2.2.1, r.2.2.2]
theorem flat4_len (rs : List Ru) : (flat4 rs).length = rs.length * 4 := by
  induction rs with
  | nil => rfl
  | cons e rs ih => show (flat4 rs).length + 4 = (rs.length + 1) * 4; omega
theorem flat4_at {rs : List Ru} {i : Nat} {r : Ru} (h : rs[i]? = some r) : (flat4 rs)[i * 4]? = some r.1 ∧ (flat4 rs)[i * 4 + 1]? = some r.2.1 ∧ (flat4 rs)[i * 4 + 2]? = some r.2.2.1 ∧ (flat4 rs)[i * 4 + 3]? = some r.2.2.2 := by
  induction rs generalizing i with
  | nil => cases h
  | cons x rs ih =>
    cases i with
    | zero =>
      simp only [List.getElem?_cons_zero, Option.some.injEq] at h
      subst h
      exact ⟨rfl, rfl, rfl, rfl⟩
    | succ i =>
      have h1 := ih (i := i) (by simpa using h)
      rw [show (i + 1) * 4 = i * 4 + 4 by omega]
      exact h1
theorem rusAt_flat {w : World} {g : Nat} {rs : List Ru} (h : iblk w g 35 (flat4 rs)) : RusAt w g 0 rs := by
  intro j r hj
  obtain ⟨h0, h1, h2, h3⟩ := flat4_at hj
  rw [Nat.zero_add]
  exact ⟨h.cell h0, h.cell h1, h.cell h2, h.cell h3⟩
theorem info52 : (Try.prog.info? 35).map (fun i => (i.zero, i.size, i.bytes)) = some (some (.agg #[.int .i64 0, .int .i64 0, .int .i64 0, .int .i64 0]), 4, 32) := by kernel_rfl
theorem pick_at {rs : List Ru} {ks : List Nat} {i j : Nat} {r : Ru} (h : ks[i]? = some j) (hr : rs[j]? = some r) : (pick rs ks)[i]? = some r := by simp [pick, h, List.getD_eq_getElem?_getD, hr]

set_option maxHeartbeats 2000000 in
set_option maxRecDepth 100000 in
theorem some_any (n : Int) (u uk : Option Addr) (p po l c q qo K ck : Nat) (rs : List Ru) (ks : List Nat) (w : World)
    (HL : Hid (rs.length = l)) (HKL : Hid (ks.length = K)) (hK : K ≤ 60) (hl : l ≤ 60)
    (HX : Hid (l ≠ 0 → u = some ⟨p, po, none⟩ ∧ p < w.heap.size ∧ RusAt w p po rs))
    (HY : Hid (K ≠ 0 → uk = some ⟨q, qo, none⟩ ∧ q < w.heap.size ∧ IntsAt w q qo (nats ks)))
    (HKS : Hid (∀ j ∈ ks, j < rs.length)) :
    Calls Try.prog 51 #[skv n u l c, .slice uk K ck] w fun e w' => ∃ g, e = .returned (.slice (some ⟨g, 0, none⟩) K K) ∧ w.heap.size ≤ g ∧ iblk w' g 35 (flat4 (pick rs ks)) ∧ Below w.heap.size w w' := by
  have hmk := fun W => make_ints (P := Try.prog) 23 35 4 32 K Try.underlying23 (.agg #[.int .i64 0, .int .i64 0, .int .i64 0, .int .i64 0]) (by rfl) (by omega) info52 (by omega) (by omega) W
  generalize hL : flat4 (pick rs ks) = L
  have HLL : Hid (L.length = K * 4) := hide (by rw [← hL, flat4_len, pick_len, unhide HKL])
  have HFL := hide hL
  clear hL
  generalize hzz : zeros (K * 4) = Z at hmk
  have HZ := hide hzz
  clear hzz
  go_enter Try.func51, Try.ntmps51
  go_wp2_with fail
  have HG := hide (iblk_new (w.alloc (.cells #[.int .i64 n, .slice u l c] 25)) 35 Z)
  have HB0 := hide (ba (ba (Below.refl w.heap.size w) (.cells #[.int .i64 n, .slice u l c] 25)) (.cells (Z.map (Value.int .i64)).toArray 35))
  clear hmk
  go_loopw [13] (fun s W => ∃ i : Nat, s = .int .i64 (i : Int) ∧ i ≤ K ∧ iblk W (w.heap.size + 1) 35 (L.take (i * 4) ++ zeros (L.length - i * 4)) ∧ W.cell? ⟨w.heap.size, 1, none⟩ = some (.slice u l c) ∧ Below w.heap.size w W) (fun s _ => K - (intOf s).toNat)
  case atStart =>
    refine ⟨0, rfl, Nat.zero_le _, ?_, by simp [go_sem], unhide HB0⟩
    have e : L.take (0 * 4) ++ zeros (L.length - 0 * 4) = Z := by rw [unhide HLL, ← unhide HZ]; simp
    rw [e]
    have := unhide HG
    simpa using this
  case round =>
    obtain ⟨i, rfl, hi, hb, z1, hw⟩ := hrel
    have HB := hide hb
    have HW := hide hw
    clear hb hw HG HB0
    by_cases h : i < K
    · have i1 : (i : Int) < (K : Int) := by omega
      have i0 : (0 : Int) ≤ (i : Int) := Int.natCast_nonneg _
      have iz : decide ((i : Int) < (K : Int)) = true := decide_eq_true i1
      obtain ⟨rfl, qw, qa⟩ := unhide HY (by omega)
      obtain ⟨κ, hκ⟩ : ∃ κ, ks[i]? = some κ := ⟨ks[i]'(by rw [unhide HKL]; exact h), List.getElem?_eq_getElem _⟩
      have κl : κ < l := by rw [← unhide HL]; exact unhide HKS κ (List.mem_of_getElem? hκ)
      have κ1 : (κ : Int) < (l : Int) := by omega
      have κ0 : (0 : Int) ≤ (κ : Int) := Int.natCast_nonneg _
      obtain ⟨rfl, pw, pa⟩ := unhide HX (by omega)
      have kc := (qa.below (unhide HW) qw) i _ (nats_at hκ)
      obtain ⟨⟨k, a, b, m⟩, hr⟩ : ∃ r, rs[κ]? = some r := ⟨rs[κ]'(by rw [unhide HL]; exact κl), List.getElem?_eq_getElem _⟩
      obtain ⟨k0, k1, k2, k3⟩ := (pa.bel (unhide HW) pw) κ _ hr
      obtain ⟨f0, f1, f2, f3⟩ := flat4_at (pick_at hκ hr)
      rw [unhide HFL] at f0 f1 f2 f3
      simp only at k0 k1 k2 k3 f0 f1 f2 f3
      have F0 := hide f0
      have F1 := hide f1
      have F2 := hide f2
      have F3 := hide f3
      have pb := unhide HB
      have j0 : i * 4 + 0 < L.length := by rw [unhide HLL]; exact mul_lt_of h (by omega)
      have j1 : i * 4 + 1 < L.length := by rw [unhide HLL]; exact mul_lt_of h (by omega)
      have j2 : i * 4 + 2 < L.length := by rw [unhide HLL]; exact mul_lt_of h (by omega)
      have j3 : i * 4 + 3 < L.length := by rw [unhide HLL]; exact mul_lt_of h (by omega)
      have m0 : wr.cell? ⟨w.heap.size + 1, i * 4, none⟩ = some (.int .i64 0) := pb.cell (fill_at L (i * 4) 0 j0)
      have m1 : wr.cell? ⟨w.heap.size + 1, i * 4 + 1, none⟩ = some (.int .i64 0) := pb.cell (fill_at L (i * 4) 1 j1)
      have m2 : wr.cell? ⟨w.heap.size + 1, i * 4 + 2, none⟩ = some (.int .i64 0) := pb.cell (fill_at L (i * 4) 2 j2)
      have m3 : wr.cell? ⟨w.heap.size + 1, i * 4 + 3, none⟩ = some (.int .i64 0) := pb.cell (fill_at L (i * 4) 3 j3)
      have fz : ∀ o, wr.frozen? ⟨w.heap.size + 1, o, none⟩ = false := pb.frozen
      have ltz := cell_lt z1
      have HJ := hide (And.intro j0 (And.intro j1 (And.intro j2 j3)))
      clear pa hr pw qa qw hκ pb f0 f1 f2 f3 j0 j1 j2 j3
      go_wp2_with fail
      go_roundw
      case rel =>
        obtain ⟨j0, j1, j2, j3⟩ := unhide HJ
        refine ⟨i + 1, by simp, h, ?_, ?_, ?_⟩
        · have h1 := ((((unhide HB).set (i * 4) k).set (i * 4 + 1) a).set (i * 4 + 2) b).set (i * 4 + 3) m
          rw [fill_step L (i * 4) j0 _ (unhide F0), fill_step L (i * 4 + 1) j1 _ (unhide F1), fill_step L (i * 4 + 2) j2 _ (unhide F2), fill_step L (i * 4 + 3) j3 _ (unhide F3)] at h1
          rw [show (i + 1) * 4 = i * 4 + 4 by omega]
          exact h1
        · have far : ∀ (W : World) (o : Nat) (v : Value), (W.setCell ⟨w.heap.size + 1, o, none⟩ v).cell? ⟨w.heap.size, 1, none⟩ = W.cell? ⟨w.heap.size, 1, none⟩ := fun W o v => World.cell?_of_block (w := W) (a := ⟨w.heap.size, 1, none⟩) (Below.heap_setCell _ _ _ _ (by simp))
          first
          | exact (far _ _ _).trans ((far _ _ _).trans ((far _ _ _).trans ((far _ _ _).trans z1)))
        · exact Below.setCell (Below.setCell (Below.setCell (Below.setCell (unhide HW) (by simp) _) (by simp) _) (by simp) _) (by simp) _
      case measure => simp only [intOf]; omega
    · have i1 : ¬ (i : Int) < (K : Int) := by omega
      have iz : decide ((i : Int) < (K : Int)) = false := decide_eq_false i1
      have en : i = K := by omega
      subst en
      go_wp2_with fail
      go_ret
      refine ⟨w.heap.size + 1, rfl, by omega, ?_, unhide HW⟩
      have h1 := unhide HB
      rw [List.take_of_length_le (by rw [unhide HLL]; omega), show L.length - i * 4 = 0 by rw [unhide HLL]; omega] at h1
      simpa [zeros] using h1
end Go.Proofs.Ytchdmigeopmacaa
