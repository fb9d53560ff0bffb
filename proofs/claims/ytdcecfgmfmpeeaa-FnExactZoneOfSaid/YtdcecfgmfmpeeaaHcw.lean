/-
  slices.Compact of points, walked.
-/
import Derived.Test.YtdcecfgmfmpeeaaHcp
import Derived.Test.YtdcecfgmfmpeeaaHsb
import Derived.Lib.SliceRun
namespace Go.Proofs.Ytdcecfgmfmpeeaa
open Go.ChangeShapes Go.WideShapes Go.ChangeAt Go.RowKit
set_option linter.unusedVariables false
set_option linter.unusedSimpArgs false

theorem Row.set {w : World} {B t k g n cap : Nat} {L : List Int} (h : Row w B t k (.slice (some ⟨g, 0, none⟩) n cap) n L) (j : Nat) (hj : j < n * k) (x : Int) :
    Row (w.setCell ⟨g, j, none⟩ (.int .i64 x)) B t k (.slice (some ⟨g, 0, none⟩) n cap) n (L.set j x) := by
  refine ⟨by have := h.1; simpa using this, ?_⟩
  rcases h.2 with ⟨h1, h2⟩ | ⟨g', cap', cur, hv, hB, hh, hn, hm, hs, ht⟩
  · cases h1
  · cases hv
    refine .inr ⟨g, cap, cur.setIfInBounds j (.int .i64 x), rfl, hB, ?_, hn, hm, by simp [hs], ?_⟩
    · show (w.heap.modify g _)[g]? = _
      rw [Array.getElem?_modify, if_pos rfl, hh]
      simp
    · rw [Array.toList_setIfInBounds, List.take_set, ht, List.map_set]
theorem Row.sets {B t k g n cap : Nat} : ∀ (xs : List Int) (o : Nat) (w : World) (L : List Int), Row w B t k (.slice (some ⟨g, 0, none⟩) n cap) n L → o + xs.length ≤ n * k → ∃ L', Row (w.setCells g o (xs.map (Value.int .i64))) B t k (.slice (some ⟨g, 0, none⟩) n cap) n L' ∧ L'.take o = L.take o := by
  intro xs
  induction xs with
  | nil => intro o w L h _; exact ⟨L, h, rfl⟩
  | cons x xs ih =>
    intro o w L h ho
    simp only [List.length_cons] at ho
    obtain ⟨L', h1, h2⟩ := ih (o + 1) (w.setCell ⟨g, o, none⟩ (.int .i64 x)) (L.set o x) (h.set o (by omega) x) (by omega)
    refine ⟨L', h1, ?_⟩
    have e := congrArg (List.take o) h2
    rw [List.take_take, List.take_take, Nat.min_eq_left (by omega), List.take_set] at e
    rw [e]
    apply List.set_eq_of_length_le
    rw [List.length_take]
    omega
theorem Below.sets {B g : Nat} (hg : B ≤ g) : ∀ (vs : List Value) (o : Nat) (w0 w : World), Below B w0 w → Below B w0 (w.setCells g o vs) := by
  intro vs
  induction vs with
  | nil => intro o w0 w h; exact h
  | cons v vs ih => intro o w0 w h; exact ih (o + 1) w0 _ (Below.setCell h hg v)
theorem zero_pts (n : Nat) : (Builtin.zeroCells (Value.agg #[.int .i64 0, .int .i64 0]).cells n).toList = (List.replicate (n * 2) (0 : Int)).map (Value.int .i64) := by
  apply List.ext_getElem
  · simp [Builtin.zeroCells, Value.cells]
  · intro i h1 h2
    have : i % 2 = 0 ∨ i % 2 = 1 := by omega
    rcases this with e | e <;> simp [Builtin.zeroCells, Value.cells, e]
theorem zero26 : ∀ w, (zeroValue 30).run Try.prog w = .ok (.agg #[.int .i64 0, .int .i64 0]) w := Try.zeroValue30
theorem run_clear_pts (w : World) (ty : TypeId) (b o n c : Nat) (hn : 0 < n) (hc : ∀ j, j < n * 2 → (w.cell? ⟨b, o + j, none⟩).isSome = true) (hf : ∀ j, j < n * 2 → w.frozen? ⟨b, o + j, none⟩ = false) :
    (Builtin.clear_ #[23] ty #[.slice (some ⟨b, o, none⟩) n c]).run Try.prog w = .ok (.tuple #[]) (w.setCells b o ((List.replicate (n * 2) (0 : Int)).map (Value.int .i64))) := by
  have hst := run_storeCells_cells (P := Try.prog) b o ((List.replicate (n * 2) (0 : Int)).map (Value.int .i64)) 0 w (by simpa using hc) (by simpa using hf) (by intro v hv'; obtain ⟨x, _, rfl⟩ := List.mem_map.1 hv'; rfl)
  simp only [Nat.add_zero] at hst
  have hzc := zero_pts n
  obtain ⟨m, rfl⟩ : ∃ m, n = m + 1 := ⟨n - 1, by omega⟩
  simp only [Value.cells] at hzc
  rw [List.map_replicate] at hst hzc ⊢
  simp [Builtin.clear_, run_underlying Try.underlying23, zero26, Value.cells, hzc, hst]
theorem pts_cells {w : World} {g : Nat} {E : List Pt} (h : IntsAt w g 0 (flat2 E)) {m : Nat} {x y : Int} (hm : E[m]? = some (x, y)) : w.cell? ⟨g, m * 2, none⟩ = some (.int .i64 x) ∧ w.cell? ⟨g, m * 2 + 1, none⟩ = some (.int .i64 y) := by
  have h0 := h _ _ (flat2_at hm).1
  have h1 := h _ _ (flat2_at hm).2
  rw [Nat.zero_add] at h0 h1
  exact ⟨h0, h1⟩
theorem flat2_set (E : List Pt) (m : Nat) (x y : Int) (hm : m < E.length) : ((flat2 E).set (m * 2) x).set (m * 2 + 1) y = flat2 (E.set m (x, y)) := by
  induction E generalizing m with
  | nil => simp at hm
  | cons a E ih =>
    cases m with
    | zero => rfl
    | succ m =>
      have := ih m (by simpa using hm)
      rw [show (m + 1) * 2 = m * 2 + 1 + 1 by omega]
      show a.1 :: a.2 :: (((flat2 E).set (m * 2) x).set (m * 2 + 1) y) = _
      rw [this]
      rfl
theorem Row.blk2 {w : World} {B t k g n cap : Nat} {L : List Int} (h : Row w B t k (.slice (some ⟨g, 0, none⟩) n cap) n L) : ∃ cur, w.heap[g]? = some (.cells cur t) ∧ n * k ≤ cur.size := by
  rcases h.2 with ⟨h1, h2⟩ | ⟨g', cap', cur, hv, hB, hh, hn, hm, hs, ht⟩
  · cases h1
  · cases hv
    exact ⟨cur, hh, by rw [hs]; exact Nat.mul_le_mul_right k hn⟩

set_option maxHeartbeats 4000000 in
set_option maxRecDepth 100000 in
theorem compact_any (B g cap : Nat) (D : List Pt) (w : World) (hB : B ≤ w.heap.size) (hgB : B ≤ g) (hn : D.length ≤ 4096) (hrow : Row w B 30 2 (.slice (some ⟨g, 0, none⟩) D.length cap) D.length (flat2 D)) :
    Calls Try.prog 37 #[.slice (some ⟨g, 0, none⟩) D.length cap] w fun e w' => e = .returned (.slice (some ⟨g, 0, none⟩) (compU D).length cap) ∧ Row w' B 30 2 (.slice (some ⟨g, 0, none⟩) (compU D).length cap) (compU D).length (flat2 (compU D)) ∧ Below B w w' := by
  have HR := hide hrow
  obtain ⟨_, _, hvg, _, hg2, hc1, hc2⟩ := hrow.sm (by simp)
  cases hvg
  clear hrow
  by_cases hn2 : D.length < 2
  · have d2 : decide ((D.length : Int) < 2) = true := decide_eq_true (by omega)
    have e : compU D = D := by
      cases D with
      | nil => rfl
      | cons a D =>
        cases D with
        | nil => rfl
        | cons b D => simp at hn2; omega
    rw [e]
    go_enter Try.func37, Try.ntmps37
    go_wp2_with fail
    go_ret
    exact ⟨rfl, unhide HR, Below.refl _ _⟩
  · have d2 : decide ((D.length : Int) < 2) = false := decide_eq_false (by omega)
    go_enter Try.func37, Try.ntmps37
    go_wp2_with fail
    go_loopw [3] (fun s W => ∃ k : Nat, s = .int .i64 (k : Int) ∧ 1 ≤ k ∧ k ≤ D.length ∧ (∀ j a b, j + 1 < k → D[j]? = some a → D[j + 1]? = some b → a ≠ b) ∧ Row W B 30 2 (.slice (some ⟨g, 0, none⟩) D.length cap) D.length (flat2 D) ∧ Below w.heap.size w W) (fun s _ => D.length - (intOf s).toNat)
    case atStart => exact ⟨1, rfl, by omega, by omega, (fun j a b hj => by omega), unhide HR, Below.refl _ _⟩
    case round =>
      obtain ⟨k, rfl, hk1, hk2, hno, hrow, hw⟩ := hrel
      have HNO := hide hno
      have HRW := hide hrow
      have HW := hide hw
      have HI := hide hrow.ints
      have hszw := hw.size
      clear hno hrow hw
      by_cases h : k < D.length
      · have kz : decide ((k : Int) < (D.length : Int)) = true := decide_eq_true (by omega)
        have i1 : (k : Int) < (D.length : Int) := by omega
        have i0 : (0 : Int) ≤ (k : Int) := by omega
        obtain ⟨K, hK⟩ : ∃ K : Nat, k = K + 1 := ⟨k - 1, by omega⟩
        obtain ⟨a1, a2, ha⟩ : ∃ a1 a2 : Int, D[K]? = some (a1, a2) := ⟨_, _, List.getElem?_eq_getElem (show K < D.length by omega)⟩
        obtain ⟨b1, b2, hb⟩ : ∃ b1 b2 : Int, D[k]? = some (b1, b2) := ⟨_, _, List.getElem?_eq_getElem h⟩
        obtain ⟨qa0, qa1⟩ := pts_cells (unhide HI) ha
        obtain ⟨qb0, qb1⟩ := pts_cells (unhide HI) hb
        have wk : IntKind.i64.wrap ((k : Int) - 1) = (K : Int) := by rw [show (k : Int) - 1 = (K : Int) by omega]; exact wrap_i (by omega) (by omega)
        have wp : IntKind.i64.wrap ((k : Int) + 1) = (k : Int) + 1 := wrap_i (by omega) (by omega)
        have j1 : (K : Int) < (D.length : Int) := by omega
        have j0 : (0 : Int) ≤ (K : Int) := by omega
        have HA := hide ha
        have HB := hide hb
        have EK := hide hK
        have lg := cell_lt qa0
        clear ha hb hK
        have NEXT : (b1, b2) ≠ (a1, a2) → ∀ j a b, j + 1 < k + 1 → D[j]? = some a → D[j + 1]? = some b → a ≠ b := by
          intro hne j a b hj h1 h2
          by_cases hjk : j + 1 < k
          · exact unhide HNO j a b hjk h1 h2
          · have ej : j = K := by have := unhide EK; omega
            subst ej
            rw [unhide HA] at h1
            have e2 := unhide HB
            rw [unhide EK] at e2
            rw [e2] at h2
            intro e
            exact hne (by rw [Option.some.inj h2, ← e, ← Option.some.inj h1])
        have HNEXT := hide NEXT
        clear NEXT
        by_cases e1 : b1 = a1
        · by_cases e2 : b2 = a2
          · subst e1 e2
            go_wp2_with fail
            go_quiet (fail)
            go_wp2_with fail
            have HDN0 : Hid (Below wr.heap.size wr (wr.drewN nq)) := hide ⟨rfl, rfl, rfl, Nat.le_refl _, fun _ _ => rfl⟩
            have HRV := hide ((unhide HRW).below (unhide HDN0))
            have HBV : Hid (Below B w (wr.drewN nq)) := hide ((bc (unhide HW) (unhide HDN0)).mono hB)
            have HC0 : Hid (compU (D.take (k + 1)) = D.take k) := hide (by
              have hb' := unhide HB
              have e := unhide EK
              rw [e] at hb'
              have h1 := compU_step (unhide HA) hb'
              rw [if_pos rfl] at h1
              rw [e, show K + 1 + 1 = K + 2 by rfl, h1, ← e]
              exact compU_none k (by omega) (unhide HNO))
            clear qa0 qa1 qb0 qb1 lg wk HI HRW HW
            obtain ⟨N2, hN2⟩ : ∃ N2 : Nat, N2 = D.length - k := ⟨_, rfl⟩
            obtain ⟨C2, hC2⟩ : ∃ C2 : Nat, C2 = cap - k := ⟨_, rfl⟩
            rw [← hN2, ← hC2]
            have hck : ¬ cap = k := by omega
            have EN2 := hide hN2
            have EC2 := hide hC2
            clear hN2 hC2
            generalize wr.drewN nq = V at *
            go_loopw [3, 5] (fun s t W => ∃ (kk j : Nat) (E : List Pt), s = .int .i64 (kk : Int) ∧ t = .int .i64 (j : Int) ∧ 1 ≤ j ∧ k + j ≤ D.length ∧ E.length = D.length ∧ kk + 1 ≤ k + j ∧ E.take kk = compU (D.take (k + j)) ∧ (∀ m, k + j ≤ m + 1 → E[m]? = D[m]?) ∧ Row W B 30 2 (.slice (some ⟨g, 0, none⟩) D.length cap) D.length (flat2 E) ∧ Below B w W) (fun _ t _ => D.length - (intOf t).toNat)
            case atStart => exact ⟨k, 1, D, rfl, rfl, Nat.le_refl _, by omega, rfl, Nat.le_refl _, (unhide HC0).symm, (fun m _ => rfl), unhide HRV, unhide HBV⟩
            case round =>
              obtain ⟨kk, j, E, rfl, rfl, hj1, hjn, hEl, hkk, hEt, hEq, hrow3, hb3⟩ := hrel
              have HEq := hide hEq
              have HR3 := hide hrow3
              have HB3 := hide hb3
              have HI3 := hide hrow3.ints
              have hsz3 := hb3.size
              have hN2 := unhide EN2
              clear hEq hrow3 hb3
              have k0 : (0 : Int) ≤ (kk : Int) := by omega
              have kn : (kk : Int) < (D.length : Int) := by omega
              have wkk : IntKind.i64.wrap ((kk : Int) + 1) = (kk : Int) + 1 := wrap_i (by omega) (by omega)
              have wj : IntKind.i64.wrap ((j : Int) + 1) = (j : Int) + 1 := wrap_i (by omega) (by omega)
              by_cases hjN : j < N2
              · have jz : decide ((j : Int) < (N2 : Int)) = true := decide_eq_true (by omega)
                have jl : (j : Int) < (N2 : Int) := by omega
                have jg : (0 : Int) ≤ (j : Int) := by omega
                obtain ⟨J, hJ⟩ : ∃ J : Nat, j = J + 1 := ⟨j - 1, by omega⟩
                have wJ : IntKind.i64.wrap ((j : Int) - 1) = (J : Int) := by rw [show (j : Int) - 1 = (J : Int) by omega]; exact wrap_i (by omega) (by omega)
                have Jl : (J : Int) < (N2 : Int) := by omega
                have Jg : (0 : Int) ≤ (J : Int) := by omega
                obtain ⟨a1', a2', ha⟩ : ∃ a1' a2' : Int, D[k + J]? = some (a1', a2') := ⟨_, _, List.getElem?_eq_getElem (show k + J < D.length by omega)⟩
                obtain ⟨b1', b2', hb⟩ : ∃ b1' b2' : Int, D[k + J + 1]? = some (b1', b2') := ⟨_, _, List.getElem?_eq_getElem (show k + J + 1 < D.length by omega)⟩
                obtain ⟨c1', c2', hc⟩ : ∃ c1' c2' : Int, E[kk]? = some (c1', c2') := ⟨_, _, List.getElem?_eq_getElem (show kk < E.length by omega)⟩
                obtain ⟨qa0, qa1⟩ := pts_cells (unhide HI3) ((unhide HEq (k + J) (by omega)).trans ha)
                obtain ⟨qb0, qb1⟩ := pts_cells (unhide HI3) ((unhide HEq (k + J + 1) (by omega)).trans hb)
                obtain ⟨qk0, qk1⟩ := pts_cells (unhide HI3) hc
                rw [show (k + J) * 2 = k * 2 + J * 2 by omega] at qa0 qa1
                rw [show (k + J + 1) * 2 = k * 2 + j * 2 by omega] at qb0 qb1
                have HST : Hid (compU (D.take (k + j + 1)) = if (a1', a2') = (b1', b2') then compU (D.take (k + j)) else compU (D.take (k + j)) ++ [(b1', b2')]) := hide (by have := compU_step ha hb; rw [show k + j + 1 = k + J + 2 by omega, show k + j = k + J + 1 by omega]; exact this)
                have EJ := hide hJ
                have lq := cell_lt qa0
                clear ha hb hc hJ HI3 hN2
                by_cases e1 : b1' = a1'
                · by_cases e2 : b2' = a2'
                  · subst e1 e2
                    go_wp2_with fail
                    go_quiet (fail)
                    go_wp2_with fail
                    go_roundw
                    case rel =>
                      have HDN : Below wr.heap.size wr (wr.drewN nq) := ⟨rfl, rfl, rfl, Nat.le_refl _, fun _ _ => rfl⟩
                      have H : ∃ (kk' j' : Nat) (E' : List Pt), Value.int .i64 ((kk : Int)) = .int .i64 (kk' : Int) ∧ Value.int .i64 ((j : Int) + 1) = .int .i64 (j' : Int) ∧ 1 ≤ j' ∧ k + j' ≤ D.length ∧ E'.length = D.length ∧ kk' + 1 ≤ k + j' ∧ E'.take kk' = compU (D.take (k + j')) ∧ (∀ m, k + j' ≤ m + 1 → E'[m]? = D[m]?) ∧ Row (wr.drewN nq) B 30 2 (.slice (some ⟨g, 0, none⟩) D.length cap) D.length (flat2 E') ∧ Below B w (wr.drewN nq) :=
                        ⟨kk, j + 1, E, rfl, by simp, by omega, by have := unhide EN2; omega, hEl, by omega, by rw [hEt, show k + (j + 1) = k + j + 1 by omega]; have := unhide HST; simp at this; exact this.symm, fun m hm => unhide HEq m (by omega), (unhide HR3).below HDN, (unhide HB3).trans (HDN.mono (by omega))⟩
                      first | exact H | ((repeat apply Exists.intro); refine ⟨?_, rfl⟩; exact H)
                    case measure => simp only [intOf]; omega
                  · subst e1
                    have f1 : (b1' != b1') = false := by simp
                    have f2 : (b2' != a2') = true := by simp [e2]
                    have HNE : ¬ (b1', a2') = (b1', b2') := fun e => e2 (congrArg Prod.snd e).symm
                    go_wp2_with fail
                    go_quiet (fail)
                    have HDN : Hid (Below wr.heap.size wr (wr.drewN nq)) := hide ⟨rfl, rfl, rfl, Nat.le_refl _, fun _ _ => rfl⟩
                    have HRD := hide ((unhide HR3).below (unhide HDN))
                    have s0 := keep1 (unhide HDN) qb0
                    have s1 := keep1 (unhide HDN) qb1
                    have t0 := keep1 (unhide HDN) qk0
                    have t1 := keep1 (unhide HDN) qk1
                    have ls := cell_lt s0
                    obtain ⟨cur, hblk, _⟩ := (unhide HR3).blk2
                    have fz0 : (wr.drewN nq).frozen? ⟨g, kk * 2, none⟩ = false := by simp [World.frozen?, hblk]
                    have fz1 : (wr.drewN nq).frozen? ⟨g, kk * 2 + 1, none⟩ = false := by simp [World.frozen?, hblk]
                    have HBD : Hid (Below B w (wr.drewN nq)) := hide ((unhide HB3).trans ((unhide HDN).mono (by omega)))
                    clear hblk qa0 qa1 qb0 qb1 qk0 qk1
                    generalize wr.drewN nq = V2 at *
                    have HRN : Hid (Row ((V2.setCell ⟨g, kk * 2, none⟩ (.int .i64 b1')).setCell ⟨g, kk * 2 + 1, none⟩ (.int .i64 b2')) B 30 2 (.slice (some ⟨g, 0, none⟩) D.length cap) D.length (flat2 (E.set kk (b1', b2')))) := hide (by rw [← flat2_set E kk b1' b2' (by omega)]; exact ((unhide HRD).set (kk * 2) (by omega) _).set (kk * 2 + 1) (by omega) _)
                    have HBN : Hid (Below B w ((V2.setCell ⟨g, kk * 2, none⟩ (.int .i64 b1')).setCell ⟨g, kk * 2 + 1, none⟩ (.int .i64 b2'))) := hide (Below.setCell (Below.setCell (unhide HBD) hgB _) hgB _)
                    go_wp2_with fail
                    go_roundw
                    case rel =>
                      have H : ∃ (kk' j' : Nat) (E' : List Pt), Value.int .i64 ((kk : Int) + 1) = .int .i64 (kk' : Int) ∧ Value.int .i64 ((j : Int) + 1) = .int .i64 (j' : Int) ∧ 1 ≤ j' ∧ k + j' ≤ D.length ∧ E'.length = D.length ∧ kk' + 1 ≤ k + j' ∧ E'.take kk' = compU (D.take (k + j')) ∧ (∀ m, k + j' ≤ m + 1 → E'[m]? = D[m]?) ∧ Row ((V2.setCell ⟨g, kk * 2, none⟩ (.int .i64 b1')).setCell ⟨g, kk * 2 + 1, none⟩ (.int .i64 b2')) B 30 2 (.slice (some ⟨g, 0, none⟩) D.length cap) D.length (flat2 E') ∧ Below B w ((V2.setCell ⟨g, kk * 2, none⟩ (.int .i64 b1')).setCell ⟨g, kk * 2 + 1, none⟩ (.int .i64 b2')) := by
                        refine ⟨kk + 1, j + 1, E.set kk (b1', b2'), by simp, by simp, by omega, by have := unhide EN2; omega, by rw [List.length_set]; exact hEl, by omega, ?_, fun m hm => ?_, unhide HRN, unhide HBN⟩
                        · have hst := unhide HST
                          rw [if_neg HNE] at hst
                          rw [show k + (j + 1) = k + j + 1 by omega, hst, ← hEt, List.take_add_one, List.getElem?_set_self (by omega), List.take_set]
                          rw [List.set_eq_of_length_le (by rw [List.length_take]; omega)]
                          rfl
                        · rw [List.getElem?_set_ne (by omega)]
                          exact unhide HEq m (by omega)
                      first | exact H | ((repeat apply Exists.intro); refine ⟨?_, rfl⟩; exact H)
                    case measure => simp only [intOf]; omega
                · have f1 : (b1' != a1') = true := by simp [e1]
                  have HNE : ¬ (a1', a2') = (b1', b2') := fun e => e1 (congrArg Prod.fst e).symm
                  go_wp2_with fail
                  go_quiet (fail)
                  have HDN : Hid (Below wr.heap.size wr (wr.drewN nq)) := hide ⟨rfl, rfl, rfl, Nat.le_refl _, fun _ _ => rfl⟩
                  have HRD := hide ((unhide HR3).below (unhide HDN))
                  have s0 := keep1 (unhide HDN) qb0
                  have s1 := keep1 (unhide HDN) qb1
                  have t0 := keep1 (unhide HDN) qk0
                  have t1 := keep1 (unhide HDN) qk1
                  have ls := cell_lt s0
                  obtain ⟨cur, hblk, _⟩ := (unhide HR3).blk2
                  have fz0 : (wr.drewN nq).frozen? ⟨g, kk * 2, none⟩ = false := by simp [World.frozen?, hblk]
                  have fz1 : (wr.drewN nq).frozen? ⟨g, kk * 2 + 1, none⟩ = false := by simp [World.frozen?, hblk]
                  have HBD : Hid (Below B w (wr.drewN nq)) := hide ((unhide HB3).trans ((unhide HDN).mono (by omega)))
                  clear hblk qa0 qa1 qb0 qb1 qk0 qk1
                  generalize wr.drewN nq = V2 at *
                  have HRN : Hid (Row ((V2.setCell ⟨g, kk * 2, none⟩ (.int .i64 b1')).setCell ⟨g, kk * 2 + 1, none⟩ (.int .i64 b2')) B 30 2 (.slice (some ⟨g, 0, none⟩) D.length cap) D.length (flat2 (E.set kk (b1', b2')))) := hide (by rw [← flat2_set E kk b1' b2' (by omega)]; exact ((unhide HRD).set (kk * 2) (by omega) _).set (kk * 2 + 1) (by omega) _)
                  have HBN : Hid (Below B w ((V2.setCell ⟨g, kk * 2, none⟩ (.int .i64 b1')).setCell ⟨g, kk * 2 + 1, none⟩ (.int .i64 b2'))) := hide (Below.setCell (Below.setCell (unhide HBD) hgB _) hgB _)
                  go_wp2_with fail
                  go_roundw
                  case rel =>
                    have H : ∃ (kk' j' : Nat) (E' : List Pt), Value.int .i64 ((kk : Int) + 1) = .int .i64 (kk' : Int) ∧ Value.int .i64 ((j : Int) + 1) = .int .i64 (j' : Int) ∧ 1 ≤ j' ∧ k + j' ≤ D.length ∧ E'.length = D.length ∧ kk' + 1 ≤ k + j' ∧ E'.take kk' = compU (D.take (k + j')) ∧ (∀ m, k + j' ≤ m + 1 → E'[m]? = D[m]?) ∧ Row ((V2.setCell ⟨g, kk * 2, none⟩ (.int .i64 b1')).setCell ⟨g, kk * 2 + 1, none⟩ (.int .i64 b2')) B 30 2 (.slice (some ⟨g, 0, none⟩) D.length cap) D.length (flat2 E') ∧ Below B w ((V2.setCell ⟨g, kk * 2, none⟩ (.int .i64 b1')).setCell ⟨g, kk * 2 + 1, none⟩ (.int .i64 b2')) := by
                      refine ⟨kk + 1, j + 1, E.set kk (b1', b2'), by simp, by simp, by omega, by have := unhide EN2; omega, by rw [List.length_set]; exact hEl, by omega, ?_, fun m hm => ?_, unhide HRN, unhide HBN⟩
                      · have hst := unhide HST
                        rw [if_neg HNE] at hst
                        rw [show k + (j + 1) = k + j + 1 by omega, hst, ← hEt, List.take_add_one, List.getElem?_set_self (by omega), List.take_set]
                        rw [List.set_eq_of_length_le (by rw [List.length_take]; omega)]
                        rfl
                      · rw [List.getElem?_set_ne (by omega)]
                        exact unhide HEq m (by omega)
                    first | exact H | ((repeat apply Exists.intro); refine ⟨?_, rfl⟩; exact H)
                  case measure => simp only [intOf]; omega
              · have jz : decide ((j : Int) < (N2 : Int)) = false := decide_eq_false (by omega)
                have jl : ¬ (j : Int) < (N2 : Int) := by omega
                have hcD : compU D = E.take kk := by rw [hEt, show k + j = D.length by omega, List.take_length]
                have hcl : ∀ ty, (Builtin.clear_ #[23] ty #[.slice (some ⟨g, kk * 2, none⟩) (D.length - kk) (cap - kk)]).run Try.prog wr = .ok (.tuple #[]) (wr.setCells g (kk * 2) ((List.replicate ((D.length - kk) * 2) (0 : Int)).map (Value.int .i64))) := by
                  obtain ⟨cur, hblk, hcur⟩ := (unhide HR3).blk2
                  refine fun ty => run_clear_pts wr ty g (kk * 2) (D.length - kk) (cap - kk) (by omega) (fun j hj => ?_) (fun j hj => by simp [World.frozen?, hblk])
                  simp [World.cell?, hblk]
                  omega
                obtain ⟨L', hL1, hL2⟩ := (unhide HR3).sets (List.replicate ((D.length - kk) * 2) (0 : Int)) (kk * 2) wr (flat2 E) (by rw [List.length_replicate]; omega)
                have HBC := hide (Below.sets hgB ((List.replicate ((D.length - kk) * 2) (0 : Int)).map (Value.int .i64)) (kk * 2) w wr (unhide HB3))
                have HPO := hide (hL1.pop (m := kk) (by omega))
                rw [hL2, flat2_take, ← hcD, List.map_replicate] at HPO
                rw [List.map_replicate] at HBC
                have hkl : (compU D).length = kk := by rw [hcD, List.length_take]; omega
                have hck2 : ¬ cap = kk := by omega
                have kc : (kk : Int) ≤ (cap : Int) := by omega
                have kn2 : (kk : Int) ≤ (D.length : Int) := by omega
                have nc : (D.length : Int) ≤ (cap : Int) := by omega
                have EKL := hide hkl
                clear hL1 hL2 hcD hkl hN2 hEt hEl
                go_wp2_with fail
                go_ret
                exact ⟨by rw [unhide EKL]; rfl, by rw [unhide EKL]; exact unhide HPO, unhide HBC⟩
          · have f1 : (b1 == a1) = true := by simp [e1]
            have f2 : (b2 == a2) = false := by simp [e2]
            go_wp2_with fail
            go_quiet (fail)
            go_wp2_with fail
            go_roundw
            case rel =>
              have H : ∃ k' : Nat, Value.int .i64 ((k : Int) + 1) = .int .i64 (k' : Int) ∧ 1 ≤ k' ∧ k' ≤ D.length ∧ (∀ j a b, j + 1 < k' → D[j]? = some a → D[j + 1]? = some b → a ≠ b) ∧ Row (wr.drewN nq) B 30 2 (.slice (some ⟨g, 0, none⟩) D.length cap) D.length (flat2 D) ∧ Below w.heap.size w (wr.drewN nq) :=
                ⟨k + 1, by simp, by omega, by omega, unhide HNEXT (fun e => e2 (congrArg Prod.snd e)), (unhide HRW).below ⟨rfl, rfl, rfl, Nat.le_refl _, fun _ _ => rfl⟩, bc (unhide HW) ⟨rfl, rfl, rfl, Nat.le_refl _, fun _ _ => rfl⟩⟩
              first | exact H | ((repeat apply Exists.intro); refine ⟨?_, rfl⟩; exact H)
            case measure => simp only [intOf]; omega
        · have f1 : (b1 == a1) = false := by simp [e1]
          go_wp2_with fail
          go_quiet (fail)
          go_wp2_with fail
          go_roundw
          case rel =>
            have H : ∃ k' : Nat, Value.int .i64 ((k : Int) + 1) = .int .i64 (k' : Int) ∧ 1 ≤ k' ∧ k' ≤ D.length ∧ (∀ j a b, j + 1 < k' → D[j]? = some a → D[j + 1]? = some b → a ≠ b) ∧ Row (wr.drewN nq) B 30 2 (.slice (some ⟨g, 0, none⟩) D.length cap) D.length (flat2 D) ∧ Below w.heap.size w (wr.drewN nq) :=
              ⟨k + 1, by simp, by omega, by omega, unhide HNEXT (fun e => e1 (congrArg Prod.fst e)), (unhide HRW).below ⟨rfl, rfl, rfl, Nat.le_refl _, fun _ _ => rfl⟩, bc (unhide HW) ⟨rfl, rfl, rfl, Nat.le_refl _, fun _ _ => rfl⟩⟩
            first | exact H | ((repeat apply Exists.intro); refine ⟨?_, rfl⟩; exact H)
          case measure => simp only [intOf]; omega
      · have kz : decide ((k : Int) < (D.length : Int)) = false := decide_eq_false (by omega)
        have e : compU D = D := by
          have := compU_none (D := D) D.length (Nat.le_refl _) (fun j a b hj => unhide HNO j a b (by omega))
          rwa [List.take_length] at this
        go_wp2_with fail
        go_ret
        rw [e]
        exact ⟨rfl, unhide HRW, (unhide HW).mono hB⟩
end Go.Proofs.Ytdcecfgmfmpeeaa
