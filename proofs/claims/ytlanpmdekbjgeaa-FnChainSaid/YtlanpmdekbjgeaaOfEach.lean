/-
  The program's sums: a number of each link, and the sum of numbers.
-/
import Derived.Test.YtlanpmdekbjgeaaLkFns
namespace Go.Proofs.Ytlanpmdekbjgeaa
open Go.ChangeShapes Go.WideShapes Go.ChangeAt Go.RowKit
set_option linter.unusedVariables false
set_option linter.unusedSimpArgs false

theorem sumL_succ {L : List Int} {i : Nat} {x : Int} (h : L[i]? = some x) : sumL (L.take (i + 1)) = sumL (L.take i) + x := by
  rw [List.take_add_one, h]
  exact sumL_snoc _ _

set_option maxHeartbeats 1000000 in
theorem sum_any (u : Option Addr) (p po m cu : Nat) (L : List Int) (w : World) (hl : L.length = m) (hm : m ≤ 1048576)
    (hb : ∀ i, i ≤ m → -9223372036854775808 ≤ sumL (L.take i) ∧ sumL (L.take i) ≤ 9223372036854775807) (hu : m ≠ 0 → u = some ⟨p, po, none⟩ ∧ IntsAt w p po L) :
    Calls Try.prog 33 #[.slice u m cu] w fun e w' => e = .returned (.int .i64 (sumL L)) ∧ w' = w := by
  have HU := hide hu
  have HL := hide hl
  have HB := hide hb
  have m0 : (0 : Int) ≤ (m : Int) := Int.natCast_nonneg _
  clear hu hl hb
  go_enter Try.func33, Try.ntmps33
  go_wp2
  go_loopw [3, 8] (fun t z W => ∃ i : Nat, t = .int .i64 (sumL (L.take i)) ∧ z = .int .i64 (i : Int) ∧ i ≤ m ∧ W = w) (fun _ z _ => m - (intOf z).toNat)
  case atStart => exact ⟨0, by simp [sumL], rfl, Nat.zero_le _, rfl⟩
  case round =>
    obtain ⟨i, rfl, rfl, hi, rfl⟩ := hrel
    by_cases h : i < m
    · have i1 : (i : Int) < (m : Int) := by omega
      have i0 : (0 : Int) ≤ (i : Int) := Int.natCast_nonneg _
      have iz : decide ((i : Int) < (m : Int)) = true := decide_eq_true i1
      obtain ⟨x, hx⟩ := get_some (unhide HL) h
      obtain ⟨rfl, hc⟩ := unhide HU (by omega)
      have k0 := hc i x hx
      have hs := sumL_succ hx
      have hb1 := unhide HB (i + 1) h
      rw [hs] at hb1
      obtain ⟨b0, b1⟩ := hb1
      have HS := hide hs
      clear hc hx hs
      generalize sumL (L.take i) = S at *
      go_wp2_with fail
      go_roundw
      case rel => exact ⟨i + 1, by rw [unhide HS], by simp, h, by first | rfl | trivial⟩
      case measure => simp only [intOf]; omega
    · have i1 : ¬ (i : Int) < (m : Int) := by omega
      have iz : decide ((i : Int) < (m : Int)) = false := decide_eq_false i1
      have e : L.take i = L := List.take_of_length_le (by rw [unhide HL]; omega)
      rw [e]
      go_wp2_with fail
      go_ret
      exact ⟨rfl, rfl⟩

theorem int_info : (Try.prog.info? 3).map (fun i => (i.zero, i.size, i.bytes)) = some (some (.int .i64 0), 1, 8) := by kernel_rfl

set_option maxHeartbeats 1000000 in
theorem ofEach_any (g : Nat) (f : Lk → Int) (eg : ∀ args w, (callFunc g args).run Try.prog w = .ok (.enter g args) w)
    (HG : Hid (∀ (s : ByteArray) (a b c d : Int) (W : World), LOk ⟨s, a, b, c, d⟩ → Calls Try.prog g #[.agg #[.string s, .int .i64 a, .int .i64 b, .int .i64 c, .int .i64 d]] W fun e w' => e = .returned (.int .i64 (f ⟨s, a, b, c, d⟩)) ∧ Below W.heap.size W w'))
    (u : Option Addr) (p po n cu : Nat) (ls : List Lk) (w : World) (hl : ls.length = n) (hn : n ≤ 40) (hok : ∀ l ∈ ls, LOk l) (hu : Lks w u p po ls) :
    Calls Try.prog 34 #[.slice u n cu, .func (.func g) #[] #[]] w fun e w' => (∃ q, e = .returned (.slice (some ⟨q, 0, none⟩) n n) ∧ w.heap.size ≤ q ∧ iblk w' q 3 (ls.map f)) ∧ Below w.heap.size w w' := by
  have HU := hide hu
  have HL := hide hl
  have HO := hide hok
  have n0 : (0 : Int) ≤ (n : Int) := Int.natCast_nonneg _
  have HLM : Hid ((ls.map f).length = n) := hide (by rw [List.length_map]; exact hl)
  clear hu hl hok
  have hmk := fun W => make_ints (P := Try.prog) 31 3 1 8 n Try.underlying31 (.int .i64 0) (by rfl) (by omega) int_info (by omega) (by omega) W
  rw [Nat.mul_one] at hmk
  generalize hzz : zeros n = Z at hmk
  have HZ := hide hzz
  clear hzz
  go_enter Try.func34, Try.ntmps34
  go_wp2_with fail
  have HG0 := hide (iblk_new w 3 Z)
  have HB0 := hide (ba (Below.refl w.heap.size w) (.cells (Z.map (Value.int .i64)).toArray 3))
  clear hmk
  go_loopw [13] (fun z W => ∃ i : Nat, z = .int .i64 (i : Int) ∧ i ≤ n ∧ iblk W w.heap.size 3 ((ls.map f).take i ++ zeros ((ls.map f).length - i)) ∧ Below w.heap.size w W) (fun z _ => n - (intOf z).toNat)
  case atStart =>
    refine ⟨0, rfl, Nat.zero_le _, ?_, unhide HB0⟩
    have e : (ls.map f).take 0 ++ zeros ((ls.map f).length - 0) = Z := by rw [unhide HLM, ← unhide HZ]; simp
    rw [e]
    exact unhide HG0
  case round =>
    obtain ⟨i, rfl, hi, hb, hw⟩ := hrel
    have HB := hide hb
    have HW := hide hw
    clear hb hw HG0 HB0
    by_cases h : i < n
    · have i1 : (i : Int) < (n : Int) := by omega
      have i0 : (0 : Int) ≤ (i : Int) := Int.natCast_nonneg _
      have iz : decide ((i : Int) < (n : Int)) = true := decide_eq_true i1
      obtain ⟨⟨s, a, b, c, d⟩, hx⟩ := get_some (unhide HL) h
      obtain ⟨rfl, pw, k0, k1, k2, k3, k4⟩ := ((unhide HU).bel (unhide HW)).at hx
      simp only at k0 k1 k2 k3 k4
      have HX := hide hx
      have HF : Hid ((ls.map f)[i]? = some (f ⟨s, a, b, c, d⟩)) := hide (by rw [List.getElem?_map, hx]; rfl)
      have HC := hide (fun W => unhide HG s a b c d W (unhide HO _ (List.mem_of_getElem? hx)))
      generalize f ⟨s, a, b, c, d⟩ = y at *
      clear pw hx
      go_wp2_with fail
      refine (unhide HC _).mono ?_
      rintro e W1 ⟨rfl, hb⟩
      have pb := ((unhide HB).bel (ba (Below.refl _ _) _)).bel hb
      have j0 : i + 0 < (ls.map f).length := by rw [unhide HLM]; exact h
      have m0 : W1.cell? ⟨w.heap.size, i, none⟩ = some (.int .i64 0) := pb.cell (fill_at (ls.map f) i 0 j0)
      have fz : ∀ o, W1.frozen? ⟨w.heap.size, o, none⟩ = false := pb.frozen
      have PB := hide pb
      have HW1 := hide (bc (ba (unhide HW) _) hb)
      have J0 := hide j0
      clear hb pb j0 k0 k1 k2 k3 k4
      go_wp2_with fail
      go_roundw
      case rel =>
        refine ⟨i + 1, by simp, h, ?_, ?_⟩
        · have h1 := (unhide PB).set i y
          rw [fill_step (ls.map f) i (unhide J0) _ (unhide HF)] at h1
          exact h1
        · exact Below.setCell (unhide HW1) (Nat.le_refl _) _
      case measure => simp only [intOf]; omega
    · have i1 : ¬ (i : Int) < (n : Int) := by omega
      have iz : decide ((i : Int) < (n : Int)) = false := decide_eq_false i1
      have en : i = n := by omega
      subst en
      go_wp2_with fail
      go_ret
      refine ⟨⟨_, rfl, Nat.le_refl _, ?_⟩, unhide HW⟩
      have h1 := unhide HB
      rw [List.take_of_length_le (by rw [unhide HLM]; omega), show (ls.map f).length - i = 0 by rw [unhide HLM]; omega] at h1
      simpa [zeros] using h1
end Go.Proofs.Ytlanpmdekbjgeaa
