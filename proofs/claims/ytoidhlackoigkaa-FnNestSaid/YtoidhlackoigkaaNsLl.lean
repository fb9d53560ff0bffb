/-
  The levels on which a plate may lie: the program's, sorted and without runs.
-/
import Derived.Test.YtoidhlackoigkaaLvMath
import Derived.Test.YtoidhlackoigkaaNsPs
import Derived.Test.YtoidhlackoigkaaNsDj
namespace Go.Proofs.Ytoidhlackoigkaa
open Go.ChangeShapes Go.WideShapes Go.ChangeAt Go.RowKit
set_option linter.unusedVariables false
set_option linter.unusedSimpArgs false

/-- the levels: all that something ends on, from below -/
def Lvl (R : List Rc) (Lv : List Int) : Prop := (∀ y, y ∈ Lv ↔ y ∈ tops R) ∧ Lv.Pairwise (· ≤ ·)
theorem rcs_len (L : List Ld) : (rcs L).length = L.length := by simp [rcs]
theorem rcs_at {L : List Ld} {i : Nat} {l : Ld} (h : L[i]? = some l) : (rcs L)[i]? = some l.a := by simp [rcs, h]
theorem rcs_take (L : List Ld) (i : Nat) : rcs (L.take i) = (rcs L).take i := by simp [rcs]
set_option maxHeartbeats 4000000 in
theorem lvP_any (Wd : Int) (u : Option Addr) (b po n c : Nat) (L : List Ld) (w : World) (hl : L.length = n) (hn : n ≤ 4000) (hu : Lds w u b po L) (hs : ∀ l ∈ L, Nr l.a) :
    Calls Try.prog 41 #[.agg #[.int .i64 Wd, .slice u n c]] w fun e w' => (∃ g k cap Lv, e = .returned (.slice (some ⟨g, 0, none⟩) k cap) ∧ Lv.length = k ∧ IntsAt w' g 0 Lv ∧ g < w'.heap.size ∧ w.heap.size ≤ g ∧ Lvl (rcs L) Lv ∧ k ≤ n + 1) ∧ Below w.heap.size w w' := by
  have HU := hide (fun X (hX : Below w.heap.size w X) => hu.bel hX)
  have HL := hide hl
  have HS := hide hs
  have n0 : (0 : Int) ≤ (n : Int) := Int.natCast_nonneg _
  obtain ⟨iP, hi1, hp0, hp1, hp2⟩ := info_parts int_info3
  have HB := hide (ba (ba (Below.refl w.heap.size w) (.cells #[.int .i64 Wd, .slice u n c] 47)) (.cells #[.int .i64 0] 3))
  have HR0 : Hid (Row ((w.alloc (.cells #[.int .i64 Wd, .slice u n c] 47)).alloc (.cells #[.int .i64 0] 3)) (w.heap.size + 1) 3 1 (.slice (some ⟨w.heap.size + 1, 0, none⟩) 1 1) 1 [0]) := hide (row_vb (L := [0]) (vb_new _ 3 [.int .i64 0] _ (by simp)) rfl (by omega) (by omega))
  clear hl hu hs
  go_enter Try.func41, Try.ntmps41
  go_wp2_with fail
  go_loopw [3, 5, 10] (fun v _ s W => ∃ i : Nat, s = .int .i64 (i : Int) ∧ i ≤ n ∧ Row W (w.heap.size + 1) 3 1 v (i + 1) (tops ((rcs L).take i)) ∧ Below w.heap.size w W ∧ w.heap.size + 1 ≤ W.heap.size) (fun _ _ s _ => n - (intOf s).toNat)
  case atStart => exact ⟨0, rfl, Nat.zero_le _, unhide HR0, unhide HB, by simp⟩
  case round =>
    obtain ⟨i, rfl, hi, hr, hb, hsz⟩ := hrel
    have HR := hide hr
    have HBW := hide hb
    by_cases h : i < n
    · have i1 : (i : Int) < (n : Int) := by omega
      have i0 : (0 : Int) ≤ (i : Int) := Int.natCast_nonneg _
      have iz : decide ((i : Int) < (n : Int)) = true := decide_eq_true i1
      obtain ⟨l, hx⟩ := get_some (unhide HL) h
      obtain ⟨rfl, pw, k9⟩ := (unhide HU _ hb).at hx
      have k0 := k9 0 _ rfl
      have k1 := k9 1 _ rfl
      have k2 := k9 2 _ rfl
      have k3 := k9 3 _ rfl
      have k4 := k9 4 _ rfl
      have k5 := k9 5 _ rfl
      rw [Nat.add_zero] at k0
      have HT := hide (fun X => top_any l.n l.t l.a X (unhide HS l (List.mem_of_getElem? hx)).sm)
      unfold ldV at HT
      have HTT := hide (tops_take (rcs_at hx))
      clear hr hb pw hx k9
      go_wp2_with fail
      refine (unhide HT _).mono ?_
      rintro e W2 ⟨rfl, hb2⟩
      have HR2 := hide (((unhide HR).below (ba (Below.refl _ _) _)).below hb2)
      have HB2 := hide (bc (ba (unhide HBW) _) hb2)
      have sz2 : w.heap.size + 1 ≤ W2.heap.size := Nat.le_trans hsz (Nat.le_trans (by simp) hb2.size)
      clear hb2 k0 k1 k2 k3 k4 k5 HR HBW
      go_wp2_with (at_builtin; refine unhide ?_)
      refine hide ?_
      refine wpList_append_own _ rfl _ _ 51 rfl (w.heap.size + 1) 3 iP _ 1 8 Try.underlying51 hi1 hp0 hp1 hp2 rfl (by decide) _ _ _ rfl ((unhide HR2).below (ba (Below.refl _ _) _)) _ 1 1 ([l.a.y + l.a.h].map (Value.int .i64)) rfl rfl (by exact news_cells _ _ rfl) ints_one (by unfold maxLen; omega) (by omega) (by first | omega | (simp; omega)) ?_
      intro v' wz hown' hgrow _
      obtain ⟨R4, B4⟩ := own_more (wr := W2) (news := [l.a.y + l.a.h]) (by repeat (first | exact Below.refl _ _ | refine Below.alloc ?_ (by first | omega | (simp; omega)) _ | refine Below.drew ?_)) (by simp; omega) (unhide HR2) hown' hgrow
      have R5 := hide R4
      have B5 := hide ((unhide HB2).trans (B4.mono (by omega)))
      have S5 := hide (Nat.le_trans sz2 B4.size)
      clear hown' hgrow R4 B4 HR2 HB2 sz2
      go_wp2_with fail
      go_roundw
      case rel => first | exact ⟨i + 1, by simp, h, by rw [unhide HTT]; exact unhide R5, unhide B5, unhide S5⟩ | ((repeat apply Exists.intro); refine ⟨?_, rfl⟩; exact ⟨i + 1, by simp, h, by rw [unhide HTT]; exact unhide R5, unhide B5, unhide S5⟩)
      case measure => first | (simp only [intOf]; omega) | (simp [intOf]; omega)
    · have iz : decide ((i : Int) < (n : Int)) = false := decide_eq_false (by omega)
      obtain rfl : n = i := by omega
      have hT : (rcs L).take n = rcs L := List.take_of_length_le (by rw [rcs_len, unhide HL]; exact Nat.le_refl _)
      rw [hT] at hr
      have hTL : (tops (rcs L)).length = n + 1 := by rw [show tops (rcs L) = 0 :: (rcs L).map (fun b => b.y + b.h) from rfl]; simp [rcs_len, unhide HL]
      rw [← hTL] at hr
      obtain ⟨g, cap, rfl, hg1, hg2, hc1, hc2⟩ := hr.sm (by
        intro e
        subst e
        rcases hr.2 with ⟨_, h0⟩ | ⟨_, _, _, h0, _⟩
        · rw [hTL] at h0; omega
        · cases h0)
      have HSO := hide (fun X (hX : Below wr.heap.size wr X) => sortR_any (w.heap.size + 1) _ (tops (rcs L)) X (Nat.le_trans hsz hX.size) (by omega) (hr.below hX))
      have HGB := hide hg1
      clear hr hb hT HR
      rw [hTL]
      rw [hTL] at HSO
      go_wp2_with fail
      refine (unhide HSO _ (Below.refl _ _)).mono ?_
      rintro e W2 ⟨rfl, hr2, hb2, hsz2, _⟩
      have hsl : (srt (tops (rcs L))).length = n + 1 := by rw [srt_len]; exact hTL
      rw [← hsl] at hr2
      have HCO := hide (compR_any (w.heap.size + 1) g cap (srt (tops (rcs L))) W2 (Nat.le_trans hsz hsz2) (unhide HGB) (by omega) hr2)
      rw [hsl] at HCO
      have HB2 := hide ((unhide HBW).trans (hb2.mono (by omega)))
      clear hr2 hb2 hsl
      go_wp2_with fail
      refine (unhide HCO).mono ?_
      rintro e W3 ⟨rfl, hi3, hg3, hb3⟩
      have HI3 := hide hi3
      have HB3 := hide ((unhide HB2).trans (hb3.mono (by omega)))
      clear hi3 hb3
      go_wp2_with fail
      go_ret
      refine ⟨⟨g, _, cap, Lib.compact (srt (tops (rcs L))), rfl, rfl, unhide HI3, hg3, by omega, ⟨fun y => ?_, ?_⟩, by have h1 := comp_len (srt (tops (rcs L))); rw [srt_len, hTL] at h1; exact h1⟩, unhide HB3⟩
      · rw [comp_mem]; exact (srt_perm _).mem_iff
      · exact comp_rise _ (srt_rise _)
end Go.Proofs.Ytoidhlackoigkaa
