/-
  Rows of links that a call makes by append: their marks, and that they are held.
-/
import Derived.Test.YtmhdodecofpchaaLkMarks
import Derived.Test.YtmhdodecofpchaaRowX
import Derived.Laws.OwnMore
namespace Go.Proofs.Ytmhdodecofpchaa
open Go.ChangeShapes Go.WideShapes Go.ChangeAt Go.RowKit
set_option linter.unusedVariables false
set_option linter.unusedSimpArgs false

/-- a row of links of one's own, perhaps with room behind -/
def LRow (w : World) (B g n cap : Nat) (ls : List Lk) : Prop := w.ownsRow B 29 5 (.slice (some ⟨g, 0, none⟩) n cap) n (flat5 ls)
theorem LRow.len {w : World} {B g n cap : Nat} {ls : List Lk} (h : LRow w B g n cap ls) : ls.length = n := by have := h.1; rw [flat5_len] at this; omega
theorem LRow.parts {w : World} {B g n cap : Nat} {ls : List Lk} (h : LRow w B g n cap ls) : B ≤ g ∧ g < w.heap.size ∧ n ≤ cap ∧ cap ≤ maxLen := by
  rcases h.2 with ⟨h1, _⟩ | ⟨g', cap', cur, hv, hB, hh, hn, hx, _, _⟩
  · cases h1
  · cases hv
    exact ⟨hB, (Array.getElem?_eq_some_iff.1 hh).1, hn, hx⟩
theorem LRow.cell {w : World} {B g n cap : Nat} {ls : List Lk} (h : LRow w B g n cap ls) {m : Nat} {x : Value} (hx : (flat5 ls)[m]? = some x) : w.cell? ⟨g, m, none⟩ = some x := by
  have hm : m < (flat5 ls).length := (List.getElem?_eq_some_iff.1 hx).1
  rw [flat5_len, h.len] at hm
  rw [World.ownsRow.cellAt h m hm]
  exact hx
theorem LRow.frozen {w : World} {B g n cap : Nat} {ls : List Lk} (h : LRow w B g n cap ls) (o : Nat) : w.frozen? ⟨g, o, none⟩ = false := World.ownsRow.frozenAt h o
theorem LRow.kept {w w' : World} {B g n cap : Nat} {ls : List Lk} (h : LRow w B g n cap ls) (e : w'.heap[g]? = w.heap[g]?) : LRow w' B g n cap ls := by
  refine ⟨h.1, ?_⟩
  rcases h.2 with h1 | ⟨g', cap', cur, hv, hB, hh, r⟩
  · exact .inl h1
  · cases hv
    exact .inr ⟨g, cap, cur, rfl, hB, e.trans hh, r⟩
theorem LRow.bel {w w' : World} {B g n cap : Nat} {ls : List Lk} (h : LRow w B g n cap ls) (hb : Below w.heap.size w w') : LRow w' B g n cap ls := h.kept (hb.block g h.parts.2.1)
theorem LRow.links {w : World} {B g n cap : Nat} {ls : List Lk} (h : LRow w B g n cap ls) : LkAt w g 0 ls := by
  intro i l hi
  obtain ⟨h0, h1, h2, h3, h4⟩ := flat5_at hi
  simp only [Nat.zero_add]
  exact ⟨h.cell h0, h.cell h1, h.cell h2, h.cell h3, h.cell h4⟩
theorem LRow.lks {w : World} {B g n cap : Nat} {ls : List Lk} (h : LRow w B g n cap ls) : Lks w (some ⟨g, 0, none⟩) g 0 ls := fun _ => ⟨rfl, h.parts.2.1, h.links⟩
theorem LRow.setb {w : World} {B g n cap b o : Nat} {ls : List Lk} {x : Value} (h : LRow w B g n cap ls) (hb : g ≠ b) : LRow (w.setCell ⟨b, o, none⟩ x) B g n cap ls := h.kept (Below.heap_setCell _ _ _ _ hb)
theorem LRow.pl {w : World} {B g n cap i : Nat} {ls : List Lk} {l : Lk} (h : LRow w B g n cap ls) (hi : ls[i]? = some l) (x : Int) : LRow (w.setCell ⟨g, i * 5 + 3, none⟩ (.int .i64 x)) B g n cap (ls.set i { l with pl := x }) := by
  unfold LRow
  rw [flat5_pl hi]
  exact (World.ownsRow.stored h _ _).1
theorem LRow.mi {w : World} {B g n cap i : Nat} {ls : List Lk} {l : Lk} (h : LRow w B g n cap ls) (hi : ls[i]? = some l) (x : Int) : LRow (w.setCell ⟨g, i * 5 + 4, none⟩ (.int .i64 x)) B g n cap (ls.set i { l with mi := x }) := by
  unfold LRow
  rw [flat5_mi hi]
  exact (World.ownsRow.stored h _ _).1
theorem vblk.lrow {w : World} {B g n : Nat} {ls : List Lk} (h : vblk w g 29 (flat5 ls)) (hl : ls.length = n) (hB : B ≤ g) (hn : n ≤ maxLen) : LRow w B g n n ls :=
  ⟨by rw [flat5_len, hl], .inr ⟨g, n, (flat5 ls).toArray, rfl, hB, h, Nat.le_refl _, hn, by simp [flat5_len, hl], by simp [List.take_of_length_le (show (flat5 ls).length ≤ n * 5 by rw [flat5_len, hl]; exact Nat.le_refl _)]⟩⟩

set_option maxHeartbeats 2000000 in
theorem lk_markR (u : Option Addr) (B p n cu c : Nat) (ls : List Lk) (w : World) (hl : ls.length = n) (hn : n ≤ 1048576) (c0 : 0 < c) (c1 : c ≤ 1000000)
    (hu : n ≠ 0 → u = some ⟨p, 0, none⟩ ∧ LRow w B p n cu ls) :
    Calls Try.prog 20 #[.slice u n cu, .int .i64 (c : Int)] w fun e w' => e = .returned (.int .i64 ((c : Int) + 5 * (n : Int))) ∧ (n ≠ 0 → LRow w' B p n cu (mkLs c n)) ∧ (n = 0 → w' = w) ∧ Mw p w w' := by
  have HU := hide hu
  have HL := hide hl
  clear hu hl
  go_enter Try.func20, Try.ntmps20
  go_wp2
  go_loopw [1, 5] (fun s t W => ∃ i : Nat, s = .int .i64 ((c : Int) + 5 * (i : Int)) ∧ t = .int .i64 (i : Int) ∧ i ≤ n ∧ (n ≠ 0 → LRow W B p n cu (over c ls i)) ∧ (n = 0 → W = w) ∧ Mw p w W) (fun _ s _ => n - (intOf s).toNat)
  case atStart => exact ⟨0, by simp, rfl, Nat.zero_le _, fun hn => by simpa [over, mkLs] using (unhide HU hn).2, fun _ => rfl, Mw.refl _ _⟩
  case round =>
    obtain ⟨i, rfl, rfl, hi, hb, hz0, hw⟩ := hrel
    have HZ := hide hz0
    have HB := hide hb
    have HW := hide hw
    clear hb hw hz0
    by_cases h : i < n
    · have i1 : (i : Int) < (n : Int) := by omega
      have i0 : (0 : Int) ≤ (i : Int) := Int.natCast_nonneg _
      have iz : decide ((i : Int) < (n : Int)) = true := decide_eq_true i1
      obtain ⟨rfl, _⟩ := unhide HU (by omega)
      have HK := hide (fun W => mkText_any (c + 5 * i) W (by omega) (by omega))
      rw [show (((c + 5 * i : Nat) : Int)) = (c : Int) + 5 * (i : Int) by omega] at HK
      go_wp2_with fail
      refine (unhide HK _).mono ?_
      rintro e W1 ⟨rfl, hbb⟩
      have pb := (unhide HB (by omega)).bel hbb
      obtain ⟨f0, f1, f2, f3, f4⟩ := flat5_at (over_at c ls i (by rw [unhide HL]; exact h))
      have m0 := pb.cell f0
      have m1 := pb.cell f1
      have m2 := pb.cell f2
      have m3 := pb.cell f3
      have m4 := pb.cell f4
      have fz : ∀ o, W1.frozen? ⟨p, o, none⟩ = false := pb.frozen
      have PB := hide pb
      have HW1 := hide ((unhide HW).bel hbb)
      clear hbb pb f0 f1 f2 f3 f4
      have hmk : mkL c i = ⟨mkT (c + 5 * i), (c : Int) + 5 * (i : Int) + 1, (c : Int) + 5 * (i : Int) + 2, (c : Int) + 5 * (i : Int) + 3, (c : Int) + 5 * (i : Int) + 4⟩ := rfl
      have HMK := hide hmk
      clear hmk
      generalize mkT (c + 5 * i) = sT at *
      go_wp2_with fail
      go_roundw
      case rel =>
        refine ⟨i + 1, by simp only [Value.int.injEq, true_and]; omega, by simp, h, fun _ => ?_, fun e => by omega, ?_⟩
        · have hlt : i < ls.length := by rw [unhide HL]; exact h
          unfold LRow
          rw [← over_step c ls i hlt, flat5_set _ _ _ (by rw [over_len c ls i (by omega)]; exact hlt), unhide HMK]
          have z1 := (World.ownsRow.stored (unhide PB) (i * 5) (.string sT)).1
          have z2 := (World.ownsRow.stored z1 (i * 5 + 1) (.int .i64 ((c : Int) + 5 * (i : Int) + 1))).1
          have z3 := (World.ownsRow.stored z2 (i * 5 + 2) (.int .i64 ((c : Int) + 5 * (i : Int) + 2))).1
          have z4 := (World.ownsRow.stored z3 (i * 5 + 3) (.int .i64 ((c : Int) + 5 * (i : Int) + 3))).1
          have z5 := (World.ownsRow.stored z4 (i * 5 + 4) (.int .i64 ((c : Int) + 5 * (i : Int) + 4))).1
          rw [show (c : Int) + 5 * (i : Int) + 1 + 1 = (c : Int) + 5 * (i : Int) + 2 by omega, show (c : Int) + 5 * (i : Int) + 2 + 1 = (c : Int) + 5 * (i : Int) + 3 by omega, show (c : Int) + 5 * (i : Int) + 3 + 1 = (c : Int) + 5 * (i : Int) + 4 by omega]
          exact z5
        · exact (((((unhide HW1).set _ _).set _ _).set _ _).set _ _).set _ _
      case measure => simp only [intOf]; omega
    · have i1 : ¬ (i : Int) < (n : Int) := by omega
      have iz : decide ((i : Int) < (n : Int)) = false := decide_eq_false i1
      have en : i = n := by omega
      subst en
      go_wp2_with fail
      go_ret
      refine ⟨rfl, fun hn => ?_, unhide HZ, unhide HW⟩
      have h1 := unhide HB hn
      rw [← unhide HL, over_all] at h1
      rw [unhide HL] at h1
      exact h1

set_option maxHeartbeats 2000000 in
theorem lk_held (u : Option Addr) (p po n cu c : Nat) (w : World) (hn : n ≤ 1048576) (c0 : 0 < c) (c1 : c ≤ 1000000)
    (hu : Lks w u p po (mkLs c n)) :
    Calls Try.prog 21 #[.slice u n cu, .int .i64 (c : Int)] w fun e w' => e = .returned (.int .i64 ((c : Int) + 5 * (n : Int))) ∧ Below w.heap.size w w' := by
  have HU := hide hu
  clear hu
  go_enter Try.func21, Try.ntmps21
  go_wp2
  go_loopw [1, 5] (fun s t W => ∃ i : Nat, s = .int .i64 ((c : Int) + 5 * (i : Int)) ∧ t = .int .i64 (i : Int) ∧ i ≤ n ∧ Below w.heap.size w W) (fun _ s _ => n - (intOf s).toNat)
  case atStart => exact ⟨0, by simp, rfl, Nat.zero_le _, Below.refl _ _⟩
  case round =>
    obtain ⟨i, rfl, rfl, hi, hw⟩ := hrel
    have HW := hide hw
    clear hw
    by_cases h : i < n
    · have i1 : (i : Int) < (n : Int) := by omega
      have i0 : (0 : Int) ≤ (i : Int) := Int.natCast_nonneg _
      have iz : decide ((i : Int) < (n : Int)) = true := decide_eq_true i1
      obtain ⟨rfl, pw, k0, k1, k2, k3, k4⟩ := ((unhide HU).bel (unhide HW)).at (mkLs_at c n i h)
      unfold mkL at k0 k1 k2 k3 k4
      (try simp only at k0 k1 k2 k3 k4)
      have HK := hide (fun W => mkText_any (c + 5 * i) W (by omega) (by omega))
      rw [show (((c + 5 * i : Nat) : Int)) = (c : Int) + 5 * (i : Int) by omega] at HK
      generalize mkT (c + 5 * i) = sT at *
      have s1 : (sT.toList != sT.toList) = false := by rw [bne_eq_false_iff_eq]
      have s2 : (sT.toList == sT.toList) = true := by rw [beq_iff_eq]
      have s3 : decide (sT = sT) = true := decide_eq_true rfl
      have x1 : ((c : Int) + 5 * (i : Int) + 1 != (c : Int) + 5 * (i : Int) + 1) = false := by simp
      have x2 : ((c : Int) + 5 * (i : Int) + 2 != (c : Int) + 5 * (i : Int) + 2) = false := by simp
      have x3 : ((c : Int) + 5 * (i : Int) + 3 != (c : Int) + 5 * (i : Int) + 3) = false := by simp
      have x4 : ((c : Int) + 5 * (i : Int) + 4 != (c : Int) + 5 * (i : Int) + 4) = false := by simp
      go_wp2_with fail
      go_region_held3 (fun wx => wx.cell? ⟨p, po + i * 5, none⟩ = some (.string sT))
        (simp (maxDischargeDepth := 12) [go_sem, le1, lt1, *])
        (first
        | (go_at_call 49; refine (unhide HK _).mono ?_; rintro e W4 ⟨rfl, hb4⟩; have HB4 : Hid (Below wr.heap.size wr W4) := hide (by first | exact hb4 | exact bc (Below.drew (Below.refl _ _)) hb4); have r0 := keep1 (unhide HB4) k0; have r1 := keep1 (unhide HB4) k1; have r2 := keep1 (unhide HB4) k2; have r3 := keep1 (unhide HB4) k3; have r4 := keep1 (unhide HB4) k4; clear hb4))
      all_goals
        go_wp2_with fail
        go_roundw
        case rel => exact ⟨i + 1, by simp only [Value.int.injEq, true_and]; omega, by simp, h, by repeat (first | exact bc (unhide HW) (unhide HB4) | refine Below.drew ?_)⟩
        case measure => simp only [intOf]; omega
    · have i1 : ¬ (i : Int) < (n : Int) := by omega
      have iz : decide ((i : Int) < (n : Int)) = false := decide_eq_false i1
      have en : i = n := by omega
      subst en
      go_wp2_with fail
      go_ret
      exact ⟨rfl, unhide HW⟩
end Go.Proofs.Ytmhdodecofpchaa
