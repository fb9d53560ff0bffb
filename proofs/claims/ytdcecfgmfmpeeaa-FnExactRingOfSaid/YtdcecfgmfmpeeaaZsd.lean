/-
  A polygon's sides, as the program lays them.
-/
import Derived.Test.YtdcecfgmfmpeeaaZfn
import Derived.Test.YtdcecfgmfmpeeaaPtRows
import Derived.Test.YtdcecfgmfmpeeaaPoints
namespace Go.Proofs.Ytdcecfgmfmpeeaa
open Go.ChangeShapes Go.WideShapes Go.ChangeAt Go.RowKit
set_option linter.unusedVariables false
set_option linter.unusedSimpArgs false

abbrev Sg := Pt × Pt
def sides (L : List Pt) : List Sg := (List.range L.length).map fun i => (ptAt L i, ptAt L ((i + 1) % L.length))
theorem tmod_nat (i n : Nat) : ((i : Int) + 1).tmod (n : Int) = (((i + 1) % n : Nat) : Int) := by
  have : ((i : Int) + 1) = ((i + 1 : Nat) : Int) := by omega
  rw [this, Int.tmod_eq_emod_of_nonneg (by omega)]
  rfl
def flatG (S : List Sg) : List Int := S.flatMap fun s => [s.1.1, s.1.2, s.2.1, s.2.2]
theorem flatG_len (S : List Sg) : (flatG S).length = S.length * 4 := by
  induction S with
  | nil => rfl
  | cons x L ih => simp only [flatG, List.flatMap_cons, List.length_append, List.length_cons, List.length_nil] at ih ⊢; omega
theorem flatG_at (S : List Sg) : ∀ (i : Nat) (s : Sg), S[i]? = some s → (flatG S)[i * 4]? = some s.1.1 ∧ (flatG S)[i * 4 + 1]? = some s.1.2 ∧ (flatG S)[i * 4 + 2]? = some s.2.1 ∧ (flatG S)[i * 4 + 3]? = some s.2.2 := by
  induction S with
  | nil => intro i s h; simp at h
  | cons x L ih =>
    intro i s h
    have e : flatG (x :: L) = x.1.1 :: x.1.2 :: x.2.1 :: x.2.2 :: flatG L := rfl
    cases i with
    | zero => simp at h; subst h; rw [e]; simp
    | succ i =>
      have := ih i s (by simpa using h)
      rw [e, show (i + 1) * 4 = i * 4 + 1 + 1 + 1 + 1 by omega]
      simpa using this
theorem sides_len (L : List Pt) : (sides L).length = L.length := by simp [sides]
theorem sides_at (L : List Pt) (i : Nat) (h : i < L.length) : (sides L)[i]? = some (ptAt L i, ptAt L ((i + 1) % L.length)) := by
  simp [sides, h]
theorem seg_info : (Try.prog.info? 54).map (fun i => (i.zero, i.size, i.bytes)) = some (some (.agg #[.int .i64 0, .int .i64 0, .int .i64 0, .int .i64 0]), 4, 32) := by kernel_rfl

set_option maxRecDepth 100000 in
set_option maxHeartbeats 2000000 in
theorem sidesOf_any (b off cap n : Nat) (L : List Pt) (w : World) (HN : Hid (L.length = n)) (hn : n ≤ 400) (hb : b < w.heap.size) (hc : Hid (PtsAt w b off L)) :
    Calls Try.prog 23 #[.slice (some ⟨b, off, none⟩) n cap] w fun e w' => (∃ g, e = .returned (.slice (some ⟨g, 0, none⟩) n n) ∧ w.heap.size ≤ g ∧ iblk w' g 54 (flatG (sides L))) ∧ Below w.heap.size w w' := by
  have HF : Hid ((flatG (sides L)).length = n * 4) := hide (by rw [flatG_len, sides_len, unhide HN])
  have HA : Hid (∀ i, i < n → (flatG (sides L))[i * 4]? = some (ptAt L i).1 ∧ (flatG (sides L))[i * 4 + 1]? = some (ptAt L i).2 ∧ (flatG (sides L))[i * 4 + 2]? = some (ptAt L ((i + 1) % n)).1 ∧ (flatG (sides L))[i * 4 + 3]? = some (ptAt L ((i + 1) % n)).2) := hide fun i hi => by
    have h1 := flatG_at (sides L) i _ (sides_at L i (by rw [unhide HN]; exact hi))
    rw [unhide HN] at h1
    exact h1
  generalize flatG (sides L) = F at *
  have hmk := fun W => make_ints (P := Try.prog) 56 54 4 32 n Try.underlying56 (.agg #[.int .i64 0, .int .i64 0, .int .i64 0, .int .i64 0]) (by rfl) (by omega) seg_info (by omega) (by omega) W
  generalize hzz : zeros (n * 4) = Z at hmk
  have HZ := hide hzz
  have HBB := hide hb
  clear hzz hb
  go_enter Try.func23, Try.ntmps23
  go_wp2_with fail
  have HG := hide (iblk_new w 54 Z)
  have HB0 := hide (ba (Below.refl w.heap.size w) (.cells (Z.map (Value.int .i64)).toArray 54))
  clear hmk
  go_loopw [11] (fun s W => ∃ i : Nat, s = .int .i64 (i : Int) ∧ i ≤ n ∧ iblk W w.heap.size 54 (F.take (i * 4) ++ zeros (F.length - i * 4)) ∧ Below w.heap.size w W) (fun s _ => n - (intOf s).toNat)
  case atStart =>
    refine ⟨0, rfl, Nat.zero_le _, ?_, unhide HB0⟩
    have e : F.take (0 * 4) ++ zeros (F.length - 0 * 4) = Z := by rw [unhide HF, ← unhide HZ]; simp
    rw [e]
    exact unhide HG
  case round =>
    obtain ⟨i, rfl, hi, hb, hw⟩ := hrel
    have HB := hide hb
    have HW := hide hw
    clear hb hw HG HB0
    by_cases h : i < n
    · have i1 : (i : Int) < (n : Int) := by omega
      have i0 : (0 : Int) ≤ (i : Int) := Int.natCast_nonneg _
      have iz : decide ((i : Int) < (n : Int)) = true := decide_eq_true i1
      have nz : ((n : Int) == 0) = false := by rw [beq_eq_false_iff_ne]; omega
      have nw : ¬ n = 0 := by omega
      have wi : IntKind.i64.wrap ((i : Int) + 1) = (i : Int) + 1 := wrap_i (by omega) (by omega)
      have mi' : (i + 1) % n < n := Nat.mod_lt _ (by omega)
      have ha := unhide HA i h
      obtain ⟨m, hm⟩ : ∃ m : Nat, (i + 1) % n = m := ⟨_, rfl⟩
      rw [hm] at ha mi'
      have ei : ((i : Int) + 1).tmod (n : Int) = (m : Int) := by rw [tmod_nat, hm]
      have ei2 : ((i : Int) + 1) % (n : Int) = (m : Int) := by rw [← hm]; rfl
      have m0 : (0 : Int) ≤ (m : Int) := Int.natCast_nonneg _
      have m1 : (m : Int) < (n : Int) := by omega
      clear hm
      have pw := (unhide hc).bel (unhide HW) (unhide HBB)
      obtain ⟨x0, x1⟩ := pw i _ (ptAt_some (L := L) (i := i) (by rw [unhide HN]; omega))
      obtain ⟨x2, x3⟩ := pw m _ (ptAt_some (L := L) (i := m) (by rw [unhide HN]; omega))
      obtain ⟨⟨p1, p2⟩, hp⟩ : ∃ p : Pt, ptAt L i = p := ⟨_, rfl⟩
      obtain ⟨⟨q1, q2⟩, hq⟩ : ∃ q : Pt, ptAt L m = q := ⟨_, rfl⟩
      rw [hp] at x0 x1
      rw [hq] at x2 x3
      rw [hp, hq] at ha
      dsimp only at x0 x1 x2 x3 ha
      have E := hide ha
      clear pw hp hq ha
      have BW : Hid (b < wr.heap.size) := hide (Nat.lt_of_lt_of_le (unhide HBB) (unhide HW).size)
      have lb := unhide BW
      have lb2 := Nat.le_of_lt lb
      have j0 : i * 4 + 3 < F.length := by rw [unhide HF]; omega
      have m0' : wr.cell? ⟨w.heap.size, i * 4, none⟩ = some (.int .i64 0) := (unhide HB).cell (fill_at F (i * 4) 0 (by omega))
      have m1' : wr.cell? ⟨w.heap.size, i * 4 + 1, none⟩ = some (.int .i64 0) := (unhide HB).cell (fill_at F (i * 4) 1 (by omega))
      have m2' : wr.cell? ⟨w.heap.size, i * 4 + 2, none⟩ = some (.int .i64 0) := (unhide HB).cell (fill_at F (i * 4) 2 (by omega))
      have m3' : wr.cell? ⟨w.heap.size, i * 4 + 3, none⟩ = some (.int .i64 0) := (unhide HB).cell (fill_at F (i * 4) 3 (by omega))
      have gl := (unhide HB).lt
      have gn : wr.heap.size ≠ w.heap.size := by omega
      have gb : b ≠ w.heap.size := by have := unhide HBB; omega
      have bn : wr.heap.size ≠ b := by omega
      have fz : ∀ o, wr.frozen? ⟨w.heap.size, o, none⟩ = false := (unhide HB).frozen
      have J0 := hide j0
      clear j0
      go_wp2_with fail
      go_region_held3 (fun wx => wx.cell? ⟨wr.heap.size, 0, none⟩ = some (.int .i64 p1) ∧ wx.cell? ⟨wr.heap.size, 1, none⟩ = some (.int .i64 p2) ∧ wx.cell? ⟨b, off + m * 2, none⟩ = some (.int .i64 q1) ∧ wx.cell? ⟨b, off + m * 2 + 1, none⟩ = some (.int .i64 q2))
        (simp (maxDischargeDepth := 12) [go_sem, le1, lt1, *])
        (fail)
      all_goals
        go_wp2_with fail
        go_roundw
        case rel =>
          refine ⟨i + 1, by simp, h, ?_, ?_⟩
          · have h1 := ((((unhide HB).set (i * 4) p1).set (i * 4 + 1) p2).set (i * 4 + 2) q1).set (i * 4 + 3) q2
            have jj := unhide J0
            rw [fill_step F (i * 4) (by omega) _ (unhide E).1, fill_step F (i * 4 + 1) (by omega) _ (unhide E).2.1, fill_step F (i * 4 + 2) (by omega) _ (unhide E).2.2.1, fill_step F (i * 4 + 3) (by omega) _ (unhide E).2.2.2] at h1
            rw [show (i + 1) * 4 = i * 4 + 4 by omega]
            exact h1.bel (Below.drew (ba (Below.refl _ _) _))
          · exact Below.drew (ba (Below.setCell (Below.setCell (Below.setCell (Below.setCell (unhide HW) (p := ⟨w.heap.size, _, none⟩) (Nat.le_refl _) _) (p := ⟨w.heap.size, _, none⟩) (Nat.le_refl _) _) (p := ⟨w.heap.size, _, none⟩) (Nat.le_refl _) _) (p := ⟨w.heap.size, _, none⟩) (Nat.le_refl _) _) _)
        case measure => simp only [intOf]; omega
    · have i1 : ¬ (i : Int) < (n : Int) := by omega
      have iz : decide ((i : Int) < (n : Int)) = false := decide_eq_false i1
      have en : i = n := by omega
      subst en
      go_wp2_with fail
      go_ret
      refine ⟨⟨_, rfl, Nat.le_refl _, ?_⟩, unhide HW⟩
      have h1 := unhide HB
      rw [List.take_of_length_le (by rw [unhide HF]; omega), show F.length - i * 4 = 0 by rw [unhide HF]; omega] at h1
      simpa [zeros] using h1
end Go.Proofs.Ytdcecfgmfmpeeaa
