/-
  diameter: the first two on the rim whose circle this is. obtuse: whether one of three angles is above a right one. notObtuse: the first three on the rim without an angle above a right one. toldBy: the numbers that tell the circle. The program's RingOf at every list. l09First where the point is not there; where it is, or not. The model's RingOf: lists that are none, and one point.
-/
import Derived.Test.YtdcecfgmfmpeeaaRgFinq
import Derived.Test.YtdcecfgmfmpeeaaRgJq
import Derived.Test.YtdcecfgmfmpeeaaRgLq
import Derived.Test.YtdcecfgmfmpeeaaRgXq
namespace Go.Proofs.Ytdcecfgmfmpeeaa
open Go.ChangeShapes Go.WideShapes Go.ChangeAt Go.RowKit
set_option linter.unusedVariables false
set_option linter.unusedSimpArgs false
def Tel (w : World) (v : Value) : Option (List Nat) → Prop
 | none => v = .slice none 0 0
 | some L => ∃ g, v = .slice (some ⟨g, 0, none⟩) L.length L.length ∧ g < w.heap.size ∧ IntsAt w g 0 (nums L)
theorem fp_at {Q : Nat → Nat → Bool} {A : List Nat} {a i : Nat} (h : A[a]? = some i) : fp Q (A.drop a) = match (A.drop (a + 1)).find? (Q i) with | some j => some (i, j) | none => fp Q (A.drop (a + 1)) := by
 have hl := (List.getElem?_eq_some_iff.1 h).1
 have e : A.drop a = i :: A.drop (a + 1) := by
  rw [List.drop_eq_getElem_cons hl]
  rw [List.getElem?_eq_getElem hl] at h
  cases h
  rfl
 rw [e]
 rfl
theorem find_at {q : Nat → Bool} {A : List Nat} {a i : Nat} (h : A[a]? = some i) : (A.drop a).find? q = if q i = true then some i else (A.drop (a + 1)).find? q := by
 have hl := (List.getElem?_eq_some_iff.1 h).1
 have e : A.drop a = i :: A.drop (a + 1) := by
  rw [List.drop_eq_getElem_cons hl]
  rw [List.getElem?_eq_getElem hl] at h
  cases h
  rfl
 rw [e]
 by_cases hq : q i = true
 ·rw [if_pos hq, List.find?_cons_of_pos hq]
 ·rw [if_neg hq, List.find?_cons_of_neg hq]
theorem ic_eq (c d : Ic) : (decide (c.X = d.X) && (decide (c.Y = d.Y) && (decide (c.D = d.D) && decide (c.N = d.N)))) = decide (c = d) := by
 obtain ⟨a1, a2, a3, a4⟩ := c
 obtain ⟨b1, b2, b3, b4⟩ := d
 simp only [Ic.mk.injEq]
 by_cases h1 : a1 = b1 <;> by_cases h2 : a2 = b2 <;> by_cases h3 : a3 = b3 <;> by_cases h4 : a4 = b4 <;> simp [h1, h2, h3, h4]
set_option maxHeartbeats 4000000 in
set_option maxRecDepth 100000 in
theorem dia_core (b cap n rb m rc : Nat) (P : List Pt) (A : List Nat) (c : Ic) (T : Nat → Nat → Ic) (w : World) (HL : Hid (P.length = n)) (hn : n ≤ 200) (hb : b < w.heap.size) (HI : Hid (IntsAt w b 0 (flat2 P)))
  (HM : Hid (A.length = m)) (hm : m ≤ 200) (hrc : m ≤ rc) (hrc2 : rc ≤ 9223372036854775807) (hrb : rb < w.heap.size) (HRI : Hid (IntsAt w rb 0 (nums A))) (HA : Hid (∀ i ∈ A, i < n))
  (HT : Hid (∀ a k i j (X : World) (g : Nat), A[a]? = some i → A[a + 1 + k]? = some j → cb X g 30 [.int .i64 (ptAt P i).1, .int .i64 (ptAt P i).2, .int .i64 (ptAt P j).1, .int .i64 (ptAt P j).2] → Calls Try.prog 65 #[.slice (some ⟨g, 0, none⟩) 2 2] X fun e w' => e = .returned (icV (T i j)) ∧ Below X.heap.size X w')) :
  Calls Try.prog 68 #[icV c, .slice (some ⟨b, 0, none⟩) n cap, .slice (some ⟨rb, 0, none⟩) m rc] w fun e w' => ∃ v, e = .returned v ∧ Tel w' v ((fp (fun i j => decide (T i j = c)) A).map fun q => [q.1, q.2]) ∧ Below w.heap.size w w' := by
 obtain ⟨X, Y, D, N⟩ := c
 have K0 : Hid (Below w.heap.size w (w.alloc (.cells #[.int .i64 X, .int .i64 Y, .int .i64 D, .int .i64 N] 72))) := hide (ba (Below.refl _ _) _)
 have R2 : Hid (cb (w.alloc (.cells #[.int .i64 X, .int .i64 Y, .int .i64 D, .int .i64 N] 72)) w.heap.size 72 [.int .i64 X, .int .i64 Y, .int .i64 D, .int .i64 N]) := hide (cb_new w 72 _ _ rfl)
 obtain ⟨Q, hQ⟩ : ∃ Q, (fun i j => decide (T i j = ⟨X, Y, D, N⟩)) = Q := ⟨_, rfl⟩
 have HQ : Hid (∀ i j, Q i j = (decide ((T i j).X = X) && (decide ((T i j).Y = Y) && (decide ((T i j).D = D) && decide ((T i j).N = N))))) := hide (fun i j => by rw [← hQ]; exact (ic_eq (T i j) ⟨X, Y, D, N⟩).symm)
 rw [hQ]
 unfold icV
 simp only
 clear hQ
 go_enter Try.func68, Try.ntmps68
 go_wp2_with fail
 generalize w.alloc (.cells #[.int .i64 X, .int .i64 Y, .int .i64 D, .int .i64 N] 72) = V0 at *
 go_loopw [13] (fun z X' => ∃ a : Nat, z = .int .i64 (a : Int) ∧ a ≤ m ∧ fp Q A = fp Q (A.drop a) ∧ cb X' w.heap.size 72 [.int .i64 X, .int .i64 Y, .int .i64 D, .int .i64 N] ∧ Below w.heap.size w X') (fun z _ => m - (intOf z).toNat)
 case atStart => exact ⟨0, rfl, Nat.zero_le _, rfl, zu R2, zu K0⟩
 case round =>
  obtain ⟨a, rfl, ha, hfp, h2, hw⟩ := hrel
  have H2 := hide h2
  have HW := hide hw
  have HFP := hide hfp
  clear h2 hw hfp
  by_cases h : a < m
  ·have i1 : (a : Int) < (m : Int) := by omega
   have i0 : (0 : Int) ≤ (a : Int) := Int.natCast_nonneg _
   have iz : decide ((a : Int) < (m : Int)) = true := decide_eq_true i1
   obtain ⟨i, hi⟩ : ∃ i, A[a]? = some i := ⟨_, List.getElem?_eq_getElem (by rw [zu HM]; exact h)⟩
   have hci := cells_of ((zu HRI).below (zu HW) hrb) (j := a) (x := (i : Int)) (by unfold nums; rw [List.getElem?_map, hi]; rfl)
   have wa : IntKind.i64.wrap ((a : Int) + 1) = ((a + 1 : Nat) : Int) := (wr64 (by omega) (by omega)).trans (by omega)
   have la : ((a + 1 : Nat) : Int) ≤ (m : Int) := by omega
   have la' : a + 1 ≤ m := by omega
   have lc : ((a + 1 : Nat) : Int) ≤ (rc : Int) := by omega
   have HI' := hide hi
   clear hi
   by_cases hlast : a + 1 = m
   ·have HF0 : Hid (fp Q A = fp Q (A.drop (a + 1))) := hide (by
     have h1 := zu HFP
     rw [fp_at (zu HI')] at h1
     have h2 : A.drop (a + 1) = [] := List.drop_eq_nil_of_le (by rw [zu HM]; omega)
     rw [h1, h2]
     rfl)
    have z0 : ((m - (a + 1) : Nat) : Int) = 0 := by omega
    have z1 : m - (a + 1) = 0 := by omega
    clear HFP hlast
    by_cases hr : rc = a + 1
    ·subst hr
     go_wp2_with fail
     go_loopw [23] (fun z X' => z = .int .i64 0 ∧ X' = wr) (fun _ _ => 0)
     case atStart => exact ⟨rfl, rfl⟩
     case round =>
      obtain ⟨rfl, rfl⟩ := hrel
      go_wp2_with fail
      go_roundw
      case rel =>
       have H : ∃ a' : Nat, Value.int .i64 ((a : Int) + 1) = .int .i64 (a' : Int) ∧ a' ≤ m ∧ fp Q A = fp Q (A.drop a') ∧ cb wr w.heap.size 72 [.int .i64 X, .int .i64 Y, .int .i64 D, .int .i64 N] ∧ Below w.heap.size w wr := ⟨a + 1, by simp, la', zu HF0, zu H2, zu HW⟩
       first | exact H | ((repeat apply Exists.intro); refine ⟨?_, rfl⟩; exact H)
      case measure => first | (simp only [intOf]; omega) | (simp [intOf]; omega)
    ·have r0 := hr
     have r1 : (rc == a + 1) = false := beq_eq_false_iff_ne.2 (by omega)
     have r2 : ¬ rc = a + 1 := by omega
     have r3 : ¬ a + 1 = rc := by omega
     have r4 : ¬ rc ≤ a + 1 := by omega
     have r5 : ¬ rc - (a + 1) = 0 := by omega
     have r6 : (rc - (a + 1) == 0) = false := beq_eq_false_iff_ne.2 r5
     go_wp2_with fail
     go_loopw [23] (fun z X' => z = .int .i64 0 ∧ X' = wr) (fun _ _ => 0)
     case atStart => exact ⟨rfl, rfl⟩
     case round =>
      obtain ⟨rfl, rfl⟩ := hrel
      go_wp2_with fail
      go_roundw
      case rel =>
       have H : ∃ a' : Nat, Value.int .i64 ((a : Int) + 1) = .int .i64 (a' : Int) ∧ a' ≤ m ∧ fp Q A = fp Q (A.drop a') ∧ cb wr w.heap.size 72 [.int .i64 X, .int .i64 Y, .int .i64 D, .int .i64 N] ∧ Below w.heap.size w wr := ⟨a + 1, by simp, la', zu HF0, zu H2, zu HW⟩
       first | exact H | ((repeat apply Exists.intro); refine ⟨?_, rfl⟩; exact H)
      case measure => first | (simp only [intOf]; omega) | (simp [intOf]; omega)
   ·have hroom : a + 1 < rc := by omega
    have r1 : (rc == a + 1) = false := beq_eq_false_iff_ne.2 (by omega)
    have r2 : ¬ rc = a + 1 := by omega
    have r3 : ¬ a + 1 = rc := by omega
    have r4 : ¬ rc ≤ a + 1 := by omega
    have r5 : ¬ rc - (a + 1) = 0 := by omega
    have r6 : (rc - (a + 1) == 0) = false := beq_eq_false_iff_ne.2 r5
    have hin : i < n := zu HA i (List.mem_of_getElem? (zu HI'))
    have hpi := ptAt_some (L := P) (i := i) (by rw [zu HL]; exact hin)
    have HTi := hide (fun k j X g => zu HT a k i j X g (zu HI'))
    obtain ⟨⟨px, py⟩, hxy⟩ : ∃ q, ptAt P i = q := ⟨_, rfl⟩
    rw [hxy] at hpi HTi
    have HPI := hide hpi
    clear hpi hxy
    go_wp2_with fail
    go_loopw [23] (fun z X' => ∃ k : Nat, z = .int .i64 (k : Int) ∧ k ≤ m - (a + 1) ∧ (A.drop (a + 1)).find? (Q i) = (A.drop (a + 1 + k)).find? (Q i) ∧ cb X' w.heap.size 72 [.int .i64 X, .int .i64 Y, .int .i64 D, .int .i64 N] ∧ Below w.heap.size w X') (fun z _ => m - (a + 1) - (intOf z).toNat)
    case atStart => exact ⟨0, rfl, Nat.zero_le _, rfl, zu H2, zu HW⟩
    case round =>
     clear hci
     obtain ⟨k, rfl, hk, hfd, h2, hw⟩ := hrel
     have J2 := hide h2
     have JW := hide hw
     have HFD := hide hfd
     clear h2 hw hfd
     by_cases h' : k < m - (a + 1)
     ·have k1 : (k : Int) < ((m - (a + 1) : Nat) : Int) := by omega
      have kz : decide ((k : Int) < ((m - (a + 1) : Nat) : Int)) = true := decide_eq_true k1
      have k0 : (0 : Int) ≤ (k : Int) := Int.natCast_nonneg _
      obtain ⟨j, hj⟩ : ∃ j, A[a + 1 + k]? = some j := ⟨_, List.getElem?_eq_getElem (by rw [zu HM]; omega)⟩
      have hcj := cells_of ((zu HRI).below (zu JW) hrb) (j := a + 1 + k) (x := (j : Int)) (by unfold nums; rw [List.getElem?_map, hj]; rfl)
      have hjn : j < n := zu HA j (List.mem_of_getElem? hj)
      have hpj := ptAt_some (L := P) (i := j) (by rw [zu HL]; exact hjn)
      have HTj := hide (fun X g => zu HTi k j X g hj)
      obtain ⟨⟨qx, qy⟩, hqxy⟩ : ∃ q, ptAt P j = q := ⟨_, rfl⟩
      rw [hqxy] at hpj HTj
      have hIw := (zu HI).below (zu JW) hb
      obtain ⟨p0, p1⟩ := pts_at hIw (zu HPI)
      obtain ⟨q0, q1⟩ := pts_at hIw hpj
      have HP0 := hide p0
      have HP1 := hide p1
      have HQ0 := hide q0
      have HQ1 := hide q1
      have HJ := hide hj
      have HQij := hide (zu HQ i j)
      clear hIw p0 p1 q0 q1 hpj hqxy hj
      go_wp2_with fail
      refine Go.Code.wp_mono (Only.to (fun _ _ h => h)) (di7 (X' := (T i j).X) (Y' := (T i j).Y) (D' := (T i j).D) (N' := (T i j).N) HP0 HP1 HQ0 HQ1 (hide ((zu J2).cell (m := 0) rfl)) (hide ((zu J2).cell (m := 1) rfl)) (hide ((zu J2).cell (m := 2) rfl)) (hide ((zu J2).cell (m := 3) rfl)) (hide hin) (hide hjn) (hide fun g Xw hX hcb => zu HTj Xw g hcb) (fun g8 Wy hBy _ _ => ?_))
      have Y2 := hide ((zu J2).bel hBy)
      have KY := hide (bc (zu JW) hBy)
      rw [← zu HQij]
      clear hBy J2 JW HTj
      cases hq : Q i j with
      | true =>
       have HRES : Hid (fp Q A = some (i, j)) := hide (by
        rw [zu HFP, fp_at (zu HI'), zu HFD, find_at (zu HJ), hq]
        rfl)
       go_wp2_with fail
       go_ret
       refine ⟨_, rfl, ?_, ba (zu KY) _⟩
       rw [zu HRES]
       exact ⟨_, rfl, by simp, (iblk_new Wy 3 [(i : Int), (j : Int)]).ints⟩
      | false =>
       have HNX : Hid ((A.drop (a + 1)).find? (Q i) = (A.drop (a + 1 + (k + 1))).find? (Q i)) := hide (by
        rw [zu HFD, find_at (zu HJ), hq]
        rfl)
       go_wp2_with fail
       go_roundw
       case rel =>
        have H : ∃ k' : Nat, Value.int .i64 ((k : Int) + 1) = .int .i64 (k' : Int) ∧ k' ≤ m - (a + 1) ∧ (A.drop (a + 1)).find? (Q i) = (A.drop (a + 1 + k')).find? (Q i) ∧ cb Wy w.heap.size 72 [.int .i64 X, .int .i64 Y, .int .i64 D, .int .i64 N] ∧ Below w.heap.size w Wy := ⟨k + 1, by simp, h', zu HNX, zu Y2, zu KY⟩
        first | exact H | ((repeat apply Exists.intro); refine ⟨?_, rfl⟩; exact H)
       case measure => first | (simp only [intOf]; omega) | (simp [intOf]; omega)
     ·have ek : k = m - (a + 1) := by omega
      have k1 : ¬ (k : Int) < ((m - (a + 1) : Nat) : Int) := by omega
      have kz : decide ((k : Int) < ((m - (a + 1) : Nat) : Int)) = false := decide_eq_false k1
      have HF0 : Hid (fp Q A = fp Q (A.drop (a + 1))) := hide (by
       rw [zu HFP, fp_at (zu HI'), zu HFD]
       have h2 : A.drop (a + 1 + k) = [] := List.drop_eq_nil_of_le (by rw [zu HM]; omega)
       rw [h2]
       rfl)
      clear ek
      go_wp2_with fail
      go_roundw
      case rel =>
       have H : ∃ a' : Nat, Value.int .i64 ((a : Int) + 1) = .int .i64 (a' : Int) ∧ a' ≤ m ∧ fp Q A = fp Q (A.drop a') ∧ cb wr w.heap.size 72 [.int .i64 X, .int .i64 Y, .int .i64 D, .int .i64 N] ∧ Below w.heap.size w wr := ⟨a + 1, by simp, la', zu HF0, zu J2, zu JW⟩
       first | exact H | ((repeat apply Exists.intro); refine ⟨?_, rfl⟩; exact H)
      case measure => first | (simp only [intOf]; omega) | (simp [intOf]; omega)
  ·obtain rfl : m = a := by omega
   have i1 : ¬ (m : Int) < (m : Int) := by omega
   have iz : decide ((m : Int) < (m : Int)) = false := decide_eq_false i1
   have HN0 : Hid (fp Q A = none) := hide (by
    rw [zu HFP, List.drop_eq_nil_of_le (by rw [zu HM]; exact Nat.le_refl _)]
    rfl)
   go_wp2_with fail
   go_ret
   exact ⟨_, rfl, by rw [zu HN0]; rfl, zu HW⟩
theorem tm3 (i j : Nat) (h : j < 6) (e : j % 3 = i) : ((j : Int)).tmod 3 = (i : Int) := by
 have : ∀ j : Fin 6, (((j : Nat) : Int)).tmod 3 = (((j : Nat) % 3 : Nat) : Int) := by decide
 rw [← e]
 exact this ⟨j, h⟩
set_option maxHeartbeats 4000000 in
set_option maxRecDepth 100000 in
theorem obt_core (b : Nat) (p : Nat → Pt) (dd : Nat → Int) (ob : Bool) (w : World) (HO1 : Hid (∀ i, i < 3 → dd i < 0 → ob = true)) (HO2 : Hid ((∀ i, i < 3 → 0 ≤ dd i) → ob = false)) (hb : b < w.heap.size) (HI : Hid (∀ i, i < 3 → w.cell? ⟨b, i * 2, none⟩ = some (.int .i64 (p i).1) ∧ w.cell? ⟨b, i * 2 + 1, none⟩ = some (.int .i64 (p i).2)))
  (HS1 : Hid (∀ i (X : World), i < 3 → Calls Try.prog 52 #[.agg #[.int .i64 (p ((i + 1) % 3)).1, .int .i64 (p ((i + 1) % 3)).2], .agg #[.int .i64 (p i).1, .int .i64 (p i).2]] X fun e w' => e = .returned (.agg #[.int .i64 ((p ((i + 1) % 3)).1 - (p i).1), .int .i64 ((p ((i + 1) % 3)).2 - (p i).2)]) ∧ Below X.heap.size X w'))
  (HS2 : Hid (∀ i (X : World), i < 3 → Calls Try.prog 52 #[.agg #[.int .i64 (p ((i + 2) % 3)).1, .int .i64 (p ((i + 2) % 3)).2], .agg #[.int .i64 (p i).1, .int .i64 (p i).2]] X fun e w' => e = .returned (.agg #[.int .i64 ((p ((i + 2) % 3)).1 - (p i).1), .int .i64 ((p ((i + 2) % 3)).2 - (p i).2)]) ∧ Below X.heap.size X w'))
  (HS3 : Hid (∀ i (X : World), i < 3 → Calls Try.prog 54 #[.agg #[.int .i64 ((p ((i + 1) % 3)).1 - (p i).1), .int .i64 ((p ((i + 1) % 3)).2 - (p i).2)], .agg #[.int .i64 ((p ((i + 2) % 3)).1 - (p i).1), .int .i64 ((p ((i + 2) % 3)).2 - (p i).2)]] X fun e w' => e = .returned (.int .i64 (dd i)) ∧ Below X.heap.size X w')) :
  Calls Try.prog 90 #[.pointer (some ⟨b, 0, none⟩)] w fun e w' => e = .returned (.bool ob) ∧ Below w.heap.size w w' := by
 go_enter Try.func90, Try.ntmps90
 go_wp2_with fail
 go_loopw [9] (fun z X => ∃ i : Nat, z = .int .i64 (i : Int) ∧ i ≤ 3 ∧ (∀ t, t < i → 0 ≤ dd t) ∧ Below w.heap.size w X) (fun z _ => 3 - (intOf z).toNat)
 case atStart => exact ⟨0, rfl, Nat.zero_le _, (fun t h => absurd h (Nat.not_lt_zero t)), Below.refl _ _⟩
 case round =>
  obtain ⟨i, rfl, hi, hdd, hw⟩ := hrel
  have HD := hide hdd
  have HW := hide hw
  clear hdd hw
  by_cases h : i < 3
  ·have i1 : (i : Int) < 3 := by omega
   have i0 : (0 : Int) ≤ (i : Int) := Int.natCast_nonneg _
   have iz : decide ((i : Int) < 3) = true := decide_eq_true i1
   obtain ⟨j, hj⟩ : ∃ j, (i + 1) % 3 = j := ⟨_, rfl⟩
   obtain ⟨l, hl⟩ : ∃ l, (i + 2) % 3 = l := ⟨_, rfl⟩
   have hj3 : j < 3 := by omega
   have hl3 : l < 3 := by omega
   have T1 := hide (fun X => zu HS1 i X h)
   have T2 := hide (fun X => zu HS2 i X h)
   have T3 := hide (fun X => zu HS3 i X h)
   rw [hj] at T1 T3
   rw [hl] at T2 T3
   have W1 : Hid (IntKind.i64.wrap ((i : Int) + 1) = ((i + 1 : Nat) : Int)) := hide ((wr64 (by omega) (by omega)).trans (by omega))
   have W2 : Hid (IntKind.i64.wrap ((i : Int) + 2) = ((i + 2 : Nat) : Int)) := hide ((wr64 (by omega) (by omega)).trans (by omega))
   have M1 : Hid (((i + 1 : Nat) : Int).tmod 3 = (j : Int)) := hide (tm3 j (i + 1) (by omega) hj)
   have M2 : Hid (((i + 2 : Nat) : Int).tmod 3 = (l : Int)) := hide (tm3 l (i + 2) (by omega) hl)
   have C0 := hide (keep1 (zu HW) (zu HI i h).1)
   have C1 := hide (keep1 (zu HW) (zu HI i h).2)
   have J0 := hide (keep1 (zu HW) (zu HI j hj3).1)
   have J1 := hide (keep1 (zu HW) (zu HI j hj3).2)
   have L0 := hide (keep1 (zu HW) (zu HI l hl3).1)
   have L1 := hide (keep1 (zu HW) (zu HI l hl3).2)
   have HLi := hide h
   have HJ3 := hide hj3
   have HL3 := hide hl3
   clear hj hl hj3 hl3
   go_wp2_with fail
   refine Go.Code.wp_mono (Only.to (fun _ _ h => h)) (ob3 C0 C1 HLi (fun g4 Wx hBx v4 _ => ?_))
   have KX := hide (bc (zu HW) hBx)
   have X4 := hide v4
   have J0x := hide (keep1 hBx (zu J0))
   have J1x := hide (keep1 hBx (zu J1))
   have L0x := hide (keep1 hBx (zu L0))
   have L1x := hide (keep1 hBx (zu L1))
   clear v4 hBx J0 J1 L0 L1 C0 C1 HW
   try go_wp2_with fail
   refine Go.Code.wp_mono (Only.to (fun _ _ h => h)) (ob4 J0x J1x L0x L1x W1 M1 HJ3 W2 M2 HL3 (fun g5 g6 Wy hBy v5 _ v6 _ _ => ?_))
   have KY := hide (bc (zu KX) hBy)
   have Y4 := hide ((zu X4).bel hBy)
   have Y5 := hide v5
   have Y6 := hide v6
   clear v5 v6 hBy KX X4 J0x J1x L0x L1x
   try go_wp2_with fail
   refine Go.Code.wp_mono (Only.to (fun _ _ h => h)) (ob5 (r := dd i) (hide ((zu Y4).cell (m := 0) rfl)) (hide ((zu Y4).cell (m := 1) rfl)) (hide ((zu Y5).cell (m := 0) rfl)) (hide ((zu Y5).cell (m := 1) rfl)) (hide ((zu Y6).cell (m := 0) rfl)) (hide ((zu Y6).cell (m := 1) rfl)) (hide fun X _ => zu T1 X) (hide fun X _ => zu T2 X) (hide fun X _ => zu T3 X) (fun Wz hBz => ?_))
   have KZ := hide (bc (zu KY) hBz)
   clear hBz KY Y4 Y5 Y6 T1 T2 T3
   by_cases hlt : dd i < 0
   ·have d0 : decide (dd i < 0) = true := decide_eq_true hlt
    have HE : Hid (ob = true) := hide (zu HO1 i h hlt)
    go_wp2_with fail
    go_ret
    exact ⟨by rw [zu HE]; rfl, zu KZ⟩
   ·have d0 : decide (dd i < 0) = false := decide_eq_false hlt
    have HE : Hid (∀ t, t < i + 1 → 0 ≤ dd t) := hide (fun t ht => by
     rcases Nat.lt_or_ge t i with h1 | h1
     ·exact zu HD t h1
     ·have : t = i := by omega
      rw [this]; omega)
    have w1 := zu W1
    go_wp2_with fail
    go_roundw
    case rel =>
     have H : ∃ i' : Nat, Value.int .i64 ((i : Int) + 1) = .int .i64 (i' : Int) ∧ i' ≤ 3 ∧ (∀ t, t < i' → 0 ≤ dd t) ∧ Below w.heap.size w Wz := ⟨i + 1, by simp, h, zu HE, zu KZ⟩
     first | exact H | ((repeat apply Exists.intro); refine ⟨?_, rfl⟩; exact H)
    case measure => first | (simp only [intOf]; omega) | (simp [intOf]; omega)
  ·have e3 : i = 3 := by omega
   have HE : Hid (ob = false) := hide (zu HO2 (fun t ht => zu HD t (by omega)))
   subst e3
   go_wp2_with fail
   go_ret
   exact ⟨by rw [zu HE]; rfl, zu HW⟩
def p3 (a q c : Pt) : Nat → Pt
 | 0 => a
 | 1 => q
 | _ => c
def dd3 (a q c : Pt) : Nat → Int
 | 0 => dt a q c
 | 1 => dt q c a
 | _ => dt c a q
theorem lt3 {Q : Nat → Prop} (h0 : Q 0) (h1 : Q 1) (h2 : Q 2) : ∀ i, i < 3 → Q i
 | 0, _ => h0
 | 1, _ => h1
 | 2, _ => h2
theorem obt_any (b : Nat) (a q c : Pt) (w : World) (ha : Nr1 a) (hq : Nr1 q) (hc : Nr1 c) (hb : cb w b 97 [.int .i64 a.1, .int .i64 a.2, .int .i64 q.1, .int .i64 q.2, .int .i64 c.1, .int .i64 c.2]) :
  Calls Try.prog 90 #[.pointer (some ⟨b, 0, none⟩)] w fun e w' => e = .returned (.bool (!decide (Sharp a q c))) ∧ Below w.heap.size w w' := by
 have key := obt_core b (p3 a q c) (dd3 a q c) (!decide (Sharp a q c)) w
  (hide (lt3 (Q := fun i => dd3 a q c i < 0 → (!decide (Sharp a q c)) = true) (fun h => by rw [decide_eq_false (fun hs : Sharp a q c => by have := hs.1; change dt a q c < 0 at h; omega)]; rfl) (fun h => by rw [decide_eq_false (fun hs : Sharp a q c => by have := hs.2.1; change dt q c a < 0 at h; omega)]; rfl) (fun h => by rw [decide_eq_false (fun hs : Sharp a q c => by have := hs.2.2; change dt c a q < 0 at h; omega)]; rfl)))
  (hide (fun h => by rw [decide_eq_true (show Sharp a q c from ⟨h 0 (by omega), h 1 (by omega), h 2 (by omega)⟩)]; rfl)) hb.lt (hide (lt3 ⟨hb.cell (m := 0) rfl, hb.cell (m := 1) rfl⟩ ⟨hb.cell (m := 2) rfl, hb.cell (m := 3) rfl⟩ ⟨hb.cell (m := 4) rfl, hb.cell (m := 5) rfl⟩))
  (hide fun i X h => lt3 (Q := fun i => Calls Try.prog 52 #[.agg #[.int .i64 (p3 a q c ((i + 1) % 3)).1, .int .i64 (p3 a q c ((i + 1) % 3)).2], .agg #[.int .i64 (p3 a q c i).1, .int .i64 (p3 a q c i).2]] X fun e w' => e = .returned (.agg #[.int .i64 ((p3 a q c ((i + 1) % 3)).1 - (p3 a q c i).1), .int .i64 ((p3 a q c ((i + 1) % 3)).2 - (p3 a q c i).2)]) ∧ Below X.heap.size X w') (sub_bel q.1 q.2 a.1 a.2 X (nr_ptOk hq) (nr_ptOk ha)) (sub_bel c.1 c.2 q.1 q.2 X (nr_ptOk hc) (nr_ptOk hq)) (sub_bel a.1 a.2 c.1 c.2 X (nr_ptOk ha) (nr_ptOk hc)) i h)
  (hide fun i X h => lt3 (Q := fun i => Calls Try.prog 52 #[.agg #[.int .i64 (p3 a q c ((i + 2) % 3)).1, .int .i64 (p3 a q c ((i + 2) % 3)).2], .agg #[.int .i64 (p3 a q c i).1, .int .i64 (p3 a q c i).2]] X fun e w' => e = .returned (.agg #[.int .i64 ((p3 a q c ((i + 2) % 3)).1 - (p3 a q c i).1), .int .i64 ((p3 a q c ((i + 2) % 3)).2 - (p3 a q c i).2)]) ∧ Below X.heap.size X w') (sub_bel c.1 c.2 a.1 a.2 X (nr_ptOk hc) (nr_ptOk ha)) (sub_bel a.1 a.2 q.1 q.2 X (nr_ptOk ha) (nr_ptOk hq)) (sub_bel q.1 q.2 c.1 c.2 X (nr_ptOk hq) (nr_ptOk hc)) i h)
  (hide fun i X h => by
   obtain ⟨a1, a2, a3, a4⟩ := ha
   obtain ⟨q1, q2, q3, q4⟩ := hq
   obtain ⟨c1, c2, c3, c4⟩ := hc
   exact lt3 (Q := fun i => Calls Try.prog 54 #[.agg #[.int .i64 ((p3 a q c ((i + 1) % 3)).1 - (p3 a q c i).1), .int .i64 ((p3 a q c ((i + 1) % 3)).2 - (p3 a q c i).2)], .agg #[.int .i64 ((p3 a q c ((i + 2) % 3)).1 - (p3 a q c i).1), .int .i64 ((p3 a q c ((i + 2) % 3)).2 - (p3 a q c i).2)]] X fun e w' => e = .returned (.int .i64 (dd3 a q c i)) ∧ Below X.heap.size X w') (alongW (q.1 - a.1) (q.2 - a.2) (c.1 - a.1) (c.2 - a.2) X (by omega) (by omega)) (alongW (c.1 - q.1) (c.2 - q.2) (a.1 - q.1) (a.2 - q.2) X (by omega) (by omega)) (alongW (a.1 - c.1) (a.2 - c.2) (q.1 - c.1) (q.2 - c.2) X (by omega) (by omega)) i h)
 exact key
theorem ft_at {Q : Nat → Nat → Nat → Bool} {A : List Nat} {a i : Nat} (h : A[a]? = some i) : ft Q (A.drop a) = match fp (Q i) (A.drop (a + 1)) with | some (j, l) => some (i, j, l) | none => ft Q (A.drop (a + 1)) := by
 have hl := (List.getElem?_eq_some_iff.1 h).1
 have e : A.drop a = i :: A.drop (a + 1) := by
  rw [List.drop_eq_getElem_cons hl]
  rw [List.getElem?_eq_getElem hl] at h
  cases h
  rfl
 rw [e]
 rfl
set_option maxHeartbeats 4000000 in
set_option maxRecDepth 100000 in
theorem not_core (b cap n rb m rc : Nat) (P : List Pt) (A : List Nat) (Q : Nat → Nat → Nat → Bool) (w : World) (HL : Hid (P.length = n)) (hn : n ≤ 200) (hb : b < w.heap.size) (HI : Hid (IntsAt w b 0 (flat2 P)))
  (HM : Hid (A.length = m)) (hm : m ≤ 200) (hrc : m ≤ rc) (hrc2 : rc ≤ 9223372036854775807) (hrb : rb < w.heap.size) (HRI : Hid (IntsAt w rb 0 (nums A))) (HA : Hid (∀ i ∈ A, i < n))
  (HT : Hid (∀ i j l (X : World) (g : Nat), i < n → j < n → l < n → cb X g 97 [.int .i64 (ptAt P i).1, .int .i64 (ptAt P i).2, .int .i64 (ptAt P j).1, .int .i64 (ptAt P j).2, .int .i64 (ptAt P l).1, .int .i64 (ptAt P l).2] → Calls Try.prog 90 #[.pointer (some ⟨g, 0, none⟩)] X fun e w' => e = .returned (.bool (!Q i j l)) ∧ Below X.heap.size X w')) :
  Calls Try.prog 69 #[.slice (some ⟨b, 0, none⟩) n cap, .slice (some ⟨rb, 0, none⟩) m rc] w fun e w' => ∃ v, e = .returned v ∧ Tel w' v ((ft Q A).map fun q => [q.1, q.2.1, q.2.2]) ∧ Below w.heap.size w w' := by
 go_enter Try.func69, Try.ntmps69
 go_wp2_with fail
 go_loopw [12] (fun z X' => ∃ a : Nat, z = .int .i64 (a : Int) ∧ a ≤ m ∧ ft Q A = ft Q (A.drop a) ∧ Below w.heap.size w X') (fun z _ => m - (intOf z).toNat)
 case atStart => exact ⟨0, rfl, Nat.zero_le _, rfl, Below.refl _ _⟩
 case round =>
  obtain ⟨a, rfl, ha, hft, hw⟩ := hrel
  have HW := hide hw
  have HFT := hide hft
  clear hw hft
  by_cases h : a < m
  ·have i1 : (a : Int) < (m : Int) := by omega
   have i0 : (0 : Int) ≤ (a : Int) := Int.natCast_nonneg _
   have iz : decide ((a : Int) < (m : Int)) = true := decide_eq_true i1
   obtain ⟨i, hi⟩ : ∃ i, A[a]? = some i := ⟨_, List.getElem?_eq_getElem (by rw [zu HM]; exact h)⟩
   have hci := cells_of ((zu HRI).below (zu HW) hrb) (j := a) (x := (i : Int)) (by unfold nums; rw [List.getElem?_map, hi]; rfl)
   have wa : IntKind.i64.wrap ((a : Int) + 1) = ((a + 1 : Nat) : Int) := (wr64 (by omega) (by omega)).trans (by omega)
   have la : a + 1 ≤ m := by omega
   have hin : i < n := zu HA i (List.mem_of_getElem? hi)
   have hpi := ptAt_some (L := P) (i := i) (by rw [zu HL]; exact hin)
   have HTi := hide (fun j l X g => zu HT i j l X g hin)
   obtain ⟨⟨px, py⟩, hxy⟩ : ∃ q, ptAt P i = q := ⟨_, rfl⟩
   rw [hxy] at hpi HTi
   have HPI := hide hpi
   have HI' := hide hi
   clear hi hpi hxy
   go_wp2_with fail
   go_loopw [7] (fun z X' => ∃ j : Nat, z = .int .i64 (j : Int) ∧ a + 1 ≤ j ∧ j ≤ m ∧ fp (Q i) (A.drop (a + 1)) = fp (Q i) (A.drop j) ∧ Below w.heap.size w X') (fun z _ => m - (intOf z).toNat)
   case atStart => exact ⟨a + 1, by simp, Nat.le_refl _, la, rfl, zu HW⟩
   case round =>
    clear hci
    obtain ⟨j, rfl, hj1, hj2, hfp, hw⟩ := hrel
    have JW := hide hw
    have HFP := hide hfp
    clear hw hfp HW
    by_cases h' : j < m
    ·have j1 : (j : Int) < (m : Int) := by omega
     have j0 : (0 : Int) ≤ (j : Int) := Int.natCast_nonneg _
     have jz : decide ((j : Int) < (m : Int)) = true := decide_eq_true j1
     obtain ⟨k, hk⟩ : ∃ k, A[j]? = some k := ⟨_, List.getElem?_eq_getElem (by rw [zu HM]; exact h')⟩
     have wj : IntKind.i64.wrap ((j : Int) + 1) = ((j + 1 : Nat) : Int) := (wr64 (by omega) (by omega)).trans (by omega)
     have lj : j + 1 ≤ m := by omega
     have ljI : ((j + 1 : Nat) : Int) ≤ (m : Int) := by omega
     have lcI : ((j + 1 : Nat) : Int) ≤ (rc : Int) := by omega
     have HK' := hide hk
     clear hk
     by_cases hlast : j + 1 = m
     ·have HF0 : Hid (fp (Q i) (A.drop (a + 1)) = fp (Q i) (A.drop (j + 1))) := hide (by
       rw [zu HFP, fp_at (zu HK')]
       have h2 : A.drop (j + 1) = [] := List.drop_eq_nil_of_le (by rw [zu HM]; omega)
       rw [h2]
       rfl)
      have z0 : ((m - (j + 1) : Nat) : Int) = 0 := by omega
      have z1 : m - (j + 1) = 0 := by omega
      clear HFP hlast
      by_cases hr : rc = j + 1
      ·subst hr
       go_wp2_with fail
       go_loopw [30] (fun z X' => z = .int .i64 0 ∧ X' = wr) (fun _ _ => 0)
       case atStart => exact ⟨rfl, rfl⟩
       case round =>
        obtain ⟨rfl, rfl⟩ := hrel
        go_wp2_with fail
        go_roundw
        case rel =>
         have H : ∃ j' : Nat, Value.int .i64 ((j : Int) + 1) = .int .i64 (j' : Int) ∧ a + 1 ≤ j' ∧ j' ≤ m ∧ fp (Q i) (A.drop (a + 1)) = fp (Q i) (A.drop j') ∧ Below w.heap.size w wr := ⟨j + 1, by simp, by omega, lj, zu HF0, zu JW⟩
         first | exact H | ((repeat apply Exists.intro); refine ⟨?_, rfl⟩; exact H)
        case measure => first | (simp only [intOf]; omega) | (simp [intOf]; omega)
      ·have r0 := hr
       have r1 : (rc == j + 1) = false := beq_eq_false_iff_ne.2 (by omega)
       have r2 : ¬ rc = j + 1 := by omega
       have r3 : ¬ j + 1 = rc := by omega
       have r4 : ¬ rc ≤ j + 1 := by omega
       have r5 : ¬ rc - (j + 1) = 0 := by omega
       have r6 : (rc - (j + 1) == 0) = false := beq_eq_false_iff_ne.2 r5
       go_wp2_with fail
       go_loopw [30] (fun z X' => z = .int .i64 0 ∧ X' = wr) (fun _ _ => 0)
       case atStart => exact ⟨rfl, rfl⟩
       case round =>
        obtain ⟨rfl, rfl⟩ := hrel
        go_wp2_with fail
        go_roundw
        case rel =>
         have H : ∃ j' : Nat, Value.int .i64 ((j : Int) + 1) = .int .i64 (j' : Int) ∧ a + 1 ≤ j' ∧ j' ≤ m ∧ fp (Q i) (A.drop (a + 1)) = fp (Q i) (A.drop j') ∧ Below w.heap.size w wr := ⟨j + 1, by simp, by omega, lj, zu HF0, zu JW⟩
         first | exact H | ((repeat apply Exists.intro); refine ⟨?_, rfl⟩; exact H)
        case measure => first | (simp only [intOf]; omega) | (simp [intOf]; omega)
     ·have hroom : j + 1 < rc := by omega
      have r1 : (rc == j + 1) = false := beq_eq_false_iff_ne.2 (by omega)
      have r2 : ¬ rc = j + 1 := by omega
      have r3 : ¬ j + 1 = rc := by omega
      have r4 : ¬ rc ≤ j + 1 := by omega
      have r5 : ¬ rc - (j + 1) = 0 := by omega
      have r6 : (rc - (j + 1) == 0) = false := beq_eq_false_iff_ne.2 r5
      have hkn : k < n := zu HA k (List.mem_of_getElem? (zu HK'))
      have hpk := ptAt_some (L := P) (i := k) (by rw [zu HL]; exact hkn)
      have HTk := hide (fun l X g => zu HTi k l X g hkn)
      obtain ⟨⟨kx, ky⟩, hkxy⟩ : ∃ q, ptAt P k = q := ⟨_, rfl⟩
      rw [hkxy] at hpk HTk
      have HPK := hide hpk
      clear hpk hkxy
      go_wp2_with fail
      go_loopw [30] (fun z X' => ∃ t : Nat, z = .int .i64 (t : Int) ∧ t ≤ m - (j + 1) ∧ (A.drop (j + 1)).find? (Q i k) = (A.drop (j + 1 + t)).find? (Q i k) ∧ Below w.heap.size w X') (fun z _ => m - (j + 1) - (intOf z).toNat)
      case atStart => exact ⟨0, rfl, Nat.zero_le _, rfl, zu JW⟩
      case round =>
       obtain ⟨t, rfl, ht, hfd, hw⟩ := hrel
       have TW := hide hw
       have HFD := hide hfd
       clear hw hfd JW
       by_cases h'' : t < m - (j + 1)
       ·have t1 : (t : Int) < ((m - (j + 1) : Nat) : Int) := by omega
        have tz : decide ((t : Int) < ((m - (j + 1) : Nat) : Int)) = true := decide_eq_true t1
        have t0 : (0 : Int) ≤ (t : Int) := Int.natCast_nonneg _
        obtain ⟨l, hl⟩ : ∃ l, A[j + 1 + t]? = some l := ⟨_, List.getElem?_eq_getElem (by rw [zu HM]; omega)⟩
        have hRw := (zu HRI).below (zu TW) hrb
        have hcl := cells_of hRw (j := j + 1 + t) (x := (l : Int)) (by unfold nums; rw [List.getElem?_map, hl]; rfl)
        have hck := cells_of hRw (j := j) (x := (k : Int)) (by unfold nums; rw [List.getElem?_map, zu HK']; rfl)
        have hln : l < n := zu HA l (List.mem_of_getElem? hl)
        have hpl := ptAt_some (L := P) (i := l) (by rw [zu HL]; exact hln)
        have HTl := hide (fun X g => zu HTk l X g hln)
        obtain ⟨⟨lx, ly⟩, hlxy⟩ : ∃ q, ptAt P l = q := ⟨_, rfl⟩
        rw [hlxy] at hpl HTl
        have hIw := (zu HI).below (zu TW) hb
        obtain ⟨p0, p1⟩ := pts_at hIw (zu HPI)
        obtain ⟨q0, q1⟩ := pts_at hIw (zu HPK)
        obtain ⟨e0, e1⟩ := pts_at hIw hpl
        have HP0 := hide p0
        have HP1 := hide p1
        have HQ0 := hide q0
        have HQ1 := hide q1
        have HE0 := hide e0
        have HE1 := hide e1
        have HCK := hide hck
        have HLl := hide hl
        clear hIw p0 p1 q0 q1 e0 e1 hpl hlxy hl hRw hck
        go_wp2_with fail
        refine Go.Code.wp_mono (Only.to (fun _ _ h => h)) (no10 (ob := !Q i k l) HP0 HP1 HCK HQ0 HQ1 HE0 HE1 (hide hin) (hide h') (hide hkn) (hide hln) (hide fun g Xw hX hcb => zu HTl Xw g hcb) (fun g16 Wy hBy _ _ => ?_))
        have KY := hide (bc (zu TW) hBy)
        have CK := hide (keep1 hBy (zu HCK))
        rw [Bool.not_not]
        clear hBy HTl TW HCK
        cases hq : Q i k l with
        | true =>
         have HRES : Hid (ft Q A = some (i, k, l)) := hide (by
          rw [zu HFT, ft_at (zu HI'), zu HFP, fp_at (zu HK'), zu HFD, find_at (zu HLl), hq]
          rfl)
         have ck := zu CK
         go_wp2_with fail
         go_ret
         refine ⟨_, rfl, ?_, ba (zu KY) _⟩
         rw [zu HRES]
         exact ⟨_, rfl, by simp, (iblk_new Wy 3 [(i : Int), (k : Int), (l : Int)]).ints⟩
        | false =>
         have HNX : Hid ((A.drop (j + 1)).find? (Q i k) = (A.drop (j + 1 + (t + 1))).find? (Q i k)) := hide (by
          rw [zu HFD, find_at (zu HLl), hq]
          rfl)
         go_wp2_with fail
         go_roundw
         case rel =>
          have H : ∃ t' : Nat, Value.int .i64 ((t : Int) + 1) = .int .i64 (t' : Int) ∧ t' ≤ m - (j + 1) ∧ (A.drop (j + 1)).find? (Q i k) = (A.drop (j + 1 + t')).find? (Q i k) ∧ Below w.heap.size w Wy := ⟨t + 1, by simp, h'', zu HNX, zu KY⟩
          first | exact H | ((repeat apply Exists.intro); refine ⟨?_, rfl⟩; exact H)
         case measure => first | (simp only [intOf]; omega) | (simp [intOf]; omega)
       ·have et : t = m - (j + 1) := by omega
        have t1 : ¬ (t : Int) < ((m - (j + 1) : Nat) : Int) := by omega
        have tz : decide ((t : Int) < ((m - (j + 1) : Nat) : Int)) = false := decide_eq_false t1
        have HF0 : Hid (fp (Q i) (A.drop (a + 1)) = fp (Q i) (A.drop (j + 1))) := hide (by
         rw [zu HFP, fp_at (zu HK'), zu HFD]
         have h2 : A.drop (j + 1 + t) = [] := List.drop_eq_nil_of_le (by rw [zu HM]; omega)
         rw [h2]
         rfl)
        clear et
        go_wp2_with fail
        go_roundw
        case rel =>
         have H : ∃ j' : Nat, Value.int .i64 ((j : Int) + 1) = .int .i64 (j' : Int) ∧ a + 1 ≤ j' ∧ j' ≤ m ∧ fp (Q i) (A.drop (a + 1)) = fp (Q i) (A.drop j') ∧ Below w.heap.size w wr := ⟨j + 1, by simp, by omega, lj, zu HF0, zu TW⟩
         first | exact H | ((repeat apply Exists.intro); refine ⟨?_, rfl⟩; exact H)
        case measure => first | (simp only [intOf]; omega) | (simp [intOf]; omega)
    ·have ej : j = m := by omega
     have j1 : ¬ (j : Int) < (m : Int) := by omega
     have jz : decide ((j : Int) < (m : Int)) = false := decide_eq_false j1
     have HF0 : Hid (ft Q A = ft Q (A.drop (a + 1))) := hide (by
      rw [zu HFT, ft_at (zu HI'), zu HFP]
      have h2 : A.drop j = [] := List.drop_eq_nil_of_le (by rw [zu HM]; omega)
      rw [h2]
      rfl)
     clear ej
     go_wp2_with fail
     go_roundw
     case rel =>
      have H : ∃ a' : Nat, Value.int .i64 ((a : Int) + 1) = .int .i64 (a' : Int) ∧ a' ≤ m ∧ ft Q A = ft Q (A.drop a') ∧ Below w.heap.size w wr := ⟨a + 1, by simp, la, zu HF0, zu JW⟩
      first | exact H | ((repeat apply Exists.intro); refine ⟨?_, rfl⟩; exact H)
     case measure => first | (simp only [intOf]; omega) | (simp [intOf]; omega)
  ·obtain rfl : m = a := by omega
   have i1 : ¬ (m : Int) < (m : Int) := by omega
   have iz : decide ((m : Int) < (m : Int)) = false := decide_eq_false i1
   have HN0 : Hid (ft Q A = none) := hide (by
    rw [zu HFT, List.drop_eq_nil_of_le (by rw [zu HM]; exact Nat.le_refl _)]
    rfl)
   go_wp2_with fail
   go_ret
   exact ⟨_, rfl, by rw [zu HN0]; rfl, zu HW⟩
def tolL (P : List Pt) (c : Ic) : List Nat := if (rimL P c).length = 1 then rimL P c else match fp (qP2 P c) (rimL P c) with
 | some (i, j) => [i, j]
 | none => match ft (qP3 P) (rimL P c) with
  | some (i, j, l) => [i, j, l]
  | none => []
def Told (w : World) (v : Value) (L : List Nat) : Prop := ∃ g rc, v = .slice (some ⟨g, 0, none⟩) L.length rc ∧ g < w.heap.size ∧ IntsAt w g 0 (nums L)
theorem rimL_len (P : List Pt) (c : Ic) : (rimL P c).length ≤ P.length := by rw [← rl_all]; exact rl_len P c P.length
set_option maxHeartbeats 4000000 in
set_option maxRecDepth 100000 in
theorem tol_core (b cap n : Nat) (A : List Nat) (fo : Option (List Nat)) (tr : Option (List Nat)) (c : Ic) (w : World) (hb : b < w.heap.size)
  (H1 : Hid (∀ X : World, Below w.heap.size w X → Calls Try.prog 67 #[icV c, .slice (some ⟨b, 0, none⟩) n cap] X fun e w' => ∃ v, e = .returned v ∧ Row w' (X.heap.size + 1) 3 1 v A.length (nums A) ∧ Below X.heap.size X w'))
  (H2 : Hid (∀ (X : World) (rb rc : Nat), Below w.heap.size w X → rb < X.heap.size → IntsAt X rb 0 (nums A) → A.length ≤ rc → rc ≤ 9223372036854775807 → Calls Try.prog 68 #[icV c, .slice (some ⟨b, 0, none⟩) n cap, .slice (some ⟨rb, 0, none⟩) A.length rc] X fun e w' => ∃ v, e = .returned v ∧ Tel w' v fo ∧ Below X.heap.size X w'))
  (H3 : Hid (∀ (X : World) (rb rc : Nat), Below w.heap.size w X → rb < X.heap.size → IntsAt X rb 0 (nums A) → A.length ≤ rc → rc ≤ 9223372036854775807 → Calls Try.prog 69 #[.slice (some ⟨b, 0, none⟩) n cap, .slice (some ⟨rb, 0, none⟩) A.length rc] X fun e w' => ∃ v, e = .returned v ∧ Tel w' v tr ∧ Below X.heap.size X w'))
  (hA0 : A.length ≠ 0) (HN : Hid (A.length = 1 ∨ fo ≠ none ∨ tr ≠ none)) (L : List Nat) (HE1 : Hid (A.length = 1 → L = A)) (HE2 : Hid (A.length ≠ 1 → ∀ M, fo = some M → L = M)) (HE3 : Hid (A.length ≠ 1 → fo = none → ∀ M, tr = some M → L = M)) :
  Calls Try.prog 41 #[icV c, .slice (some ⟨b, 0, none⟩) n cap] w fun e w' => ∃ v, e = .returned v ∧ Told w' v L ∧ Below w.heap.size w w' := by
 obtain ⟨X, Y, D, N⟩ := c
 have K0 : Hid (Below w.heap.size w (w.alloc (.cells #[.int .i64 X, .int .i64 Y, .int .i64 D, .int .i64 N] 72))) := hide (ba (Below.refl _ _) _)
 have R2 : Hid (cb (w.alloc (.cells #[.int .i64 X, .int .i64 Y, .int .i64 D, .int .i64 N] 72)) w.heap.size 72 [.int .i64 X, .int .i64 Y, .int .i64 D, .int .i64 N]) := hide (cb_new w 72 _ _ rfl)
 unfold icV at H1 H2 ⊢
 simp only at H1 H2 ⊢
 obtain ⟨m, hm⟩ : ∃ m, A.length = m := ⟨_, rfl⟩
 rw [hm] at H1 H2 H3 hA0 HN HE1 HE2 HE3
 have HM := hide hm
 clear hm
 go_enter Try.func41, Try.ntmps41
 go_wp2_with fail
 generalize w.alloc (.cells #[.int .i64 X, .int .i64 Y, .int .i64 D, .int .i64 N] 72) = V0 at *
 refine (zu H1 _ (zu K0)).mono ?_
 rintro e V1 ⟨v, rfl, hr, hB1⟩
 obtain ⟨rb, rc, rfl, hg1, hg2, hri, hc1, hc2⟩ := hr.full hA0
 have K1 := hide (bc (zu K0) hB1)
 have R2a := hide ((zu R2).bel hB1)
 have HRI := hide hri
 clear hr hri hB1 K0 R2 hg1 H1
 by_cases h1 : m = 1
 ·have b1 : ((m : Int) == 1) = true := beq_iff_eq.2 (by omega)
  have hz : (m : Int) = 1 := by omega
  have HL : Hid (L = A) := hide (zu HE1 h1)
  have HM1 := hide h1
  clear h1
  go_wp2_with fail
  go_ret
  refine ⟨_, rfl, ?_, zu K1⟩
  rw [zu HL]
  refine ⟨rb, rc, ?_, hg2, zu HRI⟩
  rw [zu HM]
  rfl
 ·have b1 : ((m : Int) == 1) = false := beq_eq_false_iff_ne.2 (by omega)
  have c0 := (zu R2a).cell (m := 0) rfl
  have c1 := (zu R2a).cell (m := 1) rfl
  have c2 := (zu R2a).cell (m := 2) rfl
  have c3 := (zu R2a).cell (m := 3) rfl
  have HM1 := hide h1
  clear h1
  go_wp2_with fail
  refine (zu H2 _ rb rc (zu K1) hg2 (zu HRI) hc1 hc2).mono ?_
  rintro e V2 ⟨v2, rfl, ht, hB2⟩
  have K2 := hide (bc (zu K1) hB2)
  have HRI2 := hide ((zu HRI).below hB2 hg2)
  have hg3 : rb < V2.heap.size := Nat.lt_of_lt_of_le hg2 hB2.size
  clear hB2 K1 R2a HRI c0 c1 c2 c3 hg2 H2
  cases hfo : fo with
  | some M =>
   rw [hfo] at ht
   obtain ⟨g, rfl, hgl, hgi⟩ := ht
   have HL : Hid (L = M) := hide (zu HE2 (zu HM1) M hfo)
   have HGI := hide hgi
   clear hgi hfo HN HE1 HE2 HE3 H3
   go_wp2_with fail
   go_ret
   refine ⟨_, rfl, ?_, zu K2⟩
   rw [zu HL]
   exact ⟨g, _, rfl, hgl, zu HGI⟩
  | none =>
   rw [hfo] at ht
   have ht' : v2 = .slice none 0 0 := ht
   subst ht'
   obtain ⟨M, hto⟩ : ∃ M, tr = some M := by
    rcases zu HN with h | h | h
    ·exact absurd h (zu HM1)
    ·exact absurd hfo h
    ·cases hq : tr with
     | none => exact absurd hq h
     | some M => exact ⟨M, rfl⟩
   have HL : Hid (L = M) := hide (zu HE3 (zu HM1) hfo M hto)
   rw [hto] at H3
   clear ht hfo hto HN HE1 HE2 HE3
   go_wp2_with fail
   refine (zu H3 _ rb rc (zu K2) hg3 (zu HRI2) hc1 hc2).mono ?_
   rintro e V3 ⟨v3, rfl, ht3, hB3⟩
   obtain ⟨g, rfl, hgl, hgi⟩ := ht3
   have K3 := hide (bc (zu K2) hB3)
   have HGI := hide hgi
   clear hgi hB3
   go_wp2_with fail
   go_ret
   refine ⟨_, rfl, ?_, zu K3⟩
   rw [zu HL]
   exact ⟨g, _, rfl, hgl, zu HGI⟩
theorem nrl_all {P : List Pt} (h : P.all nrP = true) : Nrl P := fun p hp => nr_near h p hp
theorem smc_told {P : List Pt} (hne : P ≠ []) : (rimL P (smc 3 P [])).length ≠ 0 ∧ ((rimL P (smc 3 P [])).length = 1 ∨ fp (qP2 P (smc 3 P [])) (rimL P (smc 3 P [])) ≠ none ∨ ft (qP3 P) (rimL P (smc 3 P [])) ≠ none) := by
 obtain ⟨k, S, hI, hM, hS⟩ := ring_md hne
 by_cases htwo : ∃ a ∈ P, ∃ b ∈ P, a ≠ b
 ·have ht := some_told hI hM hS htwo
  refine ⟨fun h0 => ?_, .inr ht⟩
  have hn : rimL P (smc 3 P []) = [] := List.eq_nil_of_length_eq_zero h0
  rw [hn] at ht
  rcases ht with h | h <;> exact h rfl
 ·have one : ∀ a ∈ P, ∀ b ∈ P, a = b := fun a ha b hb => by
   by_cases e : a = b
   ·exact e
   ·exact absurd ⟨a, ha, b, hb, e⟩ htwo
  obtain ⟨s, hs, h0⟩ : ∃ s ∈ P, apt (smc 3 P []) s = (smc 3 P []).N := by
   rcases told hM hS with ⟨s, hs, h0, _, _⟩ | ⟨a, ha, b, hb, hab, _⟩ | ⟨a, ha, b, hb, d, hd, ab, _⟩
   ·exact ⟨s, hs, (hI.onr s).1 h0⟩
   ·exact absurd (one a ha b hb) hab
   ·exact absurd (one a ha b hb) ab
  have hr := fi_rim hs h0
  have all : ∀ i ∈ rimL P (smc 3 P []), i = fi P s := fun i hi => by
   obtain ⟨h1, _, h3⟩ := rimL_mem.1 hi
   have : ptAt P i = s := one _ (ptAt_mem h1) s hs
   rw [this] at h3
   exact h3.symm
  have hso := rimL_sort P (smc 3 P [])
  generalize rimL P (smc 3 P []) = A at *
  match A, hr, all, hso with
  | [], hr, _, _ => cases hr
  | [a], _, _, _ => exact ⟨by simp, .inl rfl⟩
  | a :: b :: T, _, all, hso =>
   have h1 := all a (by simp)
   have h2 := all b (by simp)
   have h3 := (List.pairwise_cons.1 hso).1 b (by simp)
   omega
theorem tolP_any (b cap n : Nat) (P : List Pt) (w : World) (hL : P.length = n) (hn : n ≤ 200) (hne : P ≠ []) (hb : b < w.heap.size) (hI : IntsAt w b 0 (flat2 P)) (hN : Nrl P) :
  Calls Try.prog 41 #[icV (smc 3 P []), .slice (some ⟨b, 0, none⟩) n cap] w fun e w' => ∃ v, e = .returned v ∧ Told w' v (tolL P (smc 3 P [])) ∧ Below w.heap.size w w' := by
 obtain ⟨h0, ht⟩ := smc_told hne
 have hnr : NrS ((smc 3 P []).X, (smc 3 P []).Y, (smc 3 P []).D) := (smc_nr 3 P [] rfl trivial (fea_any P) hN (fun p hp => (nomatch hp))).1
 have hlen := rimL_len P (smc 3 P [])
 have hA : ∀ i ∈ rimL P (smc 3 P []), i < n := fun i hi => by rw [← hL]; exact (rimL_mem.1 hi).1
 refine tol_core b cap n (rimL P (smc 3 P [])) ((fp (qP2 P (smc 3 P [])) (rimL P (smc 3 P []))).map fun q => [q.1, q.2]) ((ft (qP3 P) (rimL P (smc 3 P []))).map fun q => [q.1, q.2.1, q.2.2]) (smc 3 P []) w hb
  (hide fun X hX => onRim_any b cap n P (smc 3 P []) X hL hn (Nat.lt_of_lt_of_le hb hX.size) (hI.below hX hb) hN hnr)
  (hide fun X rb rc hX hrb hri hc1 hc2 => dia_core b cap n rb (rimL P (smc 3 P [])).length rc P (rimL P (smc 3 P [])) (smc 3 P []) (fun i j => thr [ptAt P i, ptAt P j]) X (hide hL) hn (Nat.lt_of_lt_of_le hb hX.size) (hide (hI.below hX hb)) (hide rfl) (by omega) hc1 hc2 hrb (hide hri) (hide hA) (hide fun a k i j Y g ha hj hcb => ?_))
  (hide fun X rb rc hX hrb hri hc1 hc2 => not_core b cap n rb (rimL P (smc 3 P [])).length rc P (rimL P (smc 3 P [])) (qP3 P) X (hide hL) hn (Nat.lt_of_lt_of_le hb hX.size) (hide (hI.below hX hb)) (hide rfl) (by omega) hc1 hc2 hrb (hide hri) (hide hA) (hide fun i j l Y g h1 h2 h3 hcb => obt_any g _ _ _ Y (hN.at (by omega)) (hN.at (by omega)) (hN.at (by omega)) hcb))
  h0 (hide ?_) (tolL P (smc 3 P [])) (hide fun h => ?_) (hide fun h M hM => ?_) (hide fun h hf M hM => ?_)
 ·have hi := List.mem_of_getElem? ha
  have hjm := List.mem_of_getElem? hj
  have hij : i < j := by
   have hs := rimL_sort P (smc 3 P [])
   have h1 := List.pairwise_iff_getElem.1 hs a (a + 1 + k) (List.getElem?_eq_some_iff.1 ha).1 (List.getElem?_eq_some_iff.1 hj).1 (by omega)
   rw [(List.getElem?_eq_some_iff.1 ha).2, (List.getElem?_eq_some_iff.1 hj).2] at h1
   exact h1
  have hne2 := fst_ne (rimL_mem.1 hi).2.2 (rimL_mem.1 hjm).2.2 hij
  have hNl : Nrl [ptAt P i, ptAt P j] := fun p hp => by
   rcases List.mem_cons.1 hp with h | h
   ·rw [h]; exact hN.at (rimL_mem.1 hi).1
   ·rw [List.mem_singleton.1 h]; exact hN.at (rimL_mem.1 hjm).1
  refine thrP_any (some ⟨g, 0, none⟩) 2 2 [ptAt P i, ptAt P j] Y ⟨rfl, .inr ⟨g, rfl, by decide, hcb.lt, ?_⟩⟩ (by decide) hNl hne2
  intro t x ht
  rw [Nat.zero_add]
  refine hcb.cell ?_
  have e : flat2 [ptAt P i, ptAt P j] = [(ptAt P i).1, (ptAt P i).2, (ptAt P j).1, (ptAt P j).2] := rfl
  rw [e] at ht
  have e2 : ([.int .i64 (ptAt P i).1, .int .i64 (ptAt P i).2, .int .i64 (ptAt P j).1, .int .i64 (ptAt P j).2] : List Value) = [(ptAt P i).1, (ptAt P i).2, (ptAt P j).1, (ptAt P j).2].map (Value.int .i64) := rfl
  rw [e2, List.getElem?_map, ht]
  rfl
 ·rcases ht with h | h | h
  ·exact .inl h
  ·exact .inr (.inl (by simpa using h))
  ·exact .inr (.inr (by simpa using h))
 ·unfold tolL
  rw [if_pos h]
 ·unfold tolL
  rw [if_neg h]
  cases hf : fp (qP2 P (smc 3 P [])) (rimL P (smc 3 P [])) with
  | none => rw [hf] at hM; cases hM
  | some q => rw [hf] at hM; cases hM; rfl
 ·unfold tolL
  rw [if_neg h]
  cases hf' : fp (qP2 P (smc 3 P [])) (rimL P (smc 3 P [])) with
  | some q => rw [hf'] at hf; cases hf
  | none =>
   cases hg : ft (qP3 P) (rimL P (smc 3 P [])) with
   | none => rw [hg] at hM; cases hM
   | some q => rw [hg] at hM; cases hM; rfl
def nth (L : List Nat) (k : Nat) : Int := ((L.getD k 0 : Nat) : Int)
def rgA (P : List Pt) : Value := rgV ((tolL P (smc 3 P [])).length : Int) (nth (tolL P (smc 3 P [])) 0) (nth (tolL P (smc 3 P [])) 1) (nth (tolL P (smc 3 P [])) 2) (smc 3 P [])
def rgR (P : List Pt) : Value := if mcC P ≠ 0 then .agg #[.int .i64 0, .int .i64 0, .int .i64 0, .int .i64 0, .int .i64 0, .int .i64 0, .int .i64 0, .int .i64 0] else rgA P
theorem tol_len (P : List Pt) (c : Ic) : (tolL P c).length ≤ 3 := by
 unfold tolL
 split
 ·omega
 ·split
  ·simp
  ·split <;> simp
def three0 : List Value := [.int .i64 0, .int .i64 0, .int .i64 0]
set_option maxRecDepth 100000 in
theorem copy_told {W : World} {g g0 rc : Nat} {L : List Nat} (hl : L.length ≤ 3) (hne : L.length ≠ 0) (hs : IntsAt W g0 0 (nums L)) (hg : cb W g 75 three0) :
  ∃ W', (Builtin.copy_ #[37, 37] 3 #[.slice (some ⟨g, 0, none⟩) 3 3, .slice (some ⟨g0, 0, none⟩) L.length rc]).run Try.prog W = .ok (.int .i64 (L.length : Int)) W' ∧ cb W' g 75 [.int .i64 (nth L 0), .int .i64 (nth L 1), .int .i64 (nth L 2)] ∧ But g W W' := by
 have hmm : Nat.min L.length 3 = L.length := Nat.min_eq_left hl
 have hr := run_copy_row Try.prog W 37 37 3 3 g 0 3 3 ⟨g0, 0, none⟩ L.length rc three0.toArray 75 ((nums L).map (Value.int .i64)) Try.underlying37 (by kernel_rfl) hg (by rw [List.length_map, nums_len, hmm])
  (fun j v hv => by
   rw [add_none, Nat.zero_add]
   rw [List.getElem?_map] at hv
   cases hj : (nums L)[j]? with
   | none => rw [hj] at hv; cases hv
   | some q =>
    rw [hj] at hv
    have := hs j q hj
    simp only [Option.map_some, Option.some.injEq] at hv
    rw [← hv]
    simpa using this) (by rw [List.length_map, nums_len]; simp [three0]; omega) ints_one
 rw [List.length_map, nums_len] at hr
 obtain ⟨W', hW'⟩ : ∃ W', W' = W.setRow g (three0.toArray.toList.take 0 ++ (nums L).map (Value.int .i64) ++ three0.toArray.toList.drop (0 + L.length)).toArray := ⟨_, rfl⟩
 rw [← hW'] at hr
 refine ⟨W', hr, ?_, by rw [hW']; exact but_setRow _⟩
 have e := setRow_heap W g three0.toArray (three0.toArray.toList.take 0 ++ (nums L).map (Value.int .i64) ++ three0.toArray.toList.drop (0 + L.length)).toArray 75 (0, 0) hg
 unfold cb
 rw [hW', e]
 clear hr hW' e hs
 match L, hl, hne with
 | [a], _, _ => rfl
 | [a, b], _, _ => rfl
 | [a, b, c], _, _ => rfl
 | [], _, hne => exact absurd rfl hne
 | a :: b :: c :: d :: T, hl, _ => simp at hl
def z8 : List Value := [.int .i64 0, .int .i64 0, .int .i64 0, .int .i64 0, .int .i64 0, .int .i64 0, .int .i64 0, .int .i64 0]
set_option maxHeartbeats 4000000 in
set_option maxRecDepth 100000 in
theorem rgP_good (b cap n : Nat) (L : List Nat) (c : Ic) (w : World) (hb : b < w.heap.size)
  (HMC : Hid (∀ X : World, Below w.heap.size w X → Calls Try.prog 21 #[.slice (some ⟨b, 0, none⟩) n cap] X fun e w' => e = .returned (.int .i64 0) ∧ Below X.heap.size X w'))
  (HSM : Hid (∀ X : World, Below w.heap.size w X → Calls Try.prog 40 #[.slice (some ⟨b, 0, none⟩) n cap, .slice none 0 0] X fun e w' => e = .returned (icV c) ∧ Below X.heap.size X w'))
  (HTO : Hid (∀ X : World, Below w.heap.size w X → Calls Try.prog 41 #[icV c, .slice (some ⟨b, 0, none⟩) n cap] X fun e w' => ∃ v, e = .returned v ∧ Told w' v L ∧ Below X.heap.size X w')) (hl : L.length ≤ 3) (hne : L.length ≠ 0) :
  Calls Try.prog 10 #[.slice (some ⟨b, 0, none⟩) n cap] w fun e w' => e = .returned (.tuple #[rgV (L.length : Int) (nth L 0) (nth L 1) (nth L 2) c, .int .i64 0]) ∧ Below w.heap.size w w' := by
 obtain ⟨X, Y, D, N⟩ := c
 have K0 : Hid (Below w.heap.size w (w.alloc (.cells #[.int .i64 0, .int .i64 0, .int .i64 0, .int .i64 0, .int .i64 0, .int .i64 0, .int .i64 0, .int .i64 0] 34))) := hide (ba (Below.refl _ _) _)
 have R2 : Hid (cb (w.alloc (.cells #[.int .i64 0, .int .i64 0, .int .i64 0, .int .i64 0, .int .i64 0, .int .i64 0, .int .i64 0, .int .i64 0] 34)) w.heap.size 34 z8) := hide (cb_new w 34 z8 _ rfl)
 unfold icV at HSM HTO
 unfold rgV
 simp only at HSM HTO ⊢
 go_enter Try.func10, Try.ntmps10
 go_wp2_with fail
 generalize w.alloc (.cells #[.int .i64 0, .int .i64 0, .int .i64 0, .int .i64 0, .int .i64 0, .int .i64 0, .int .i64 0, .int .i64 0] 34) = V0 at *
 refine (zu HMC _ (zu K0)).mono ?_
 rintro e V1 ⟨rfl, hB1⟩
 have K1 := hide (bc (zu K0) hB1)
 have R2a := hide ((zu R2).bel hB1)
 clear hB1 K0 R2 HMC
 go_wp2_with fail
 refine (zu HSM _ (zu K1)).mono ?_
 rintro e V2 ⟨rfl, hB2⟩
 have hA : Below V2.heap.size V2 (V2.alloc (.cells #[.int .i64 X, .int .i64 Y, .int .i64 D, .int .i64 N] 72)) := ba (Below.refl _ _) _
 have K2 := hide (bc (zu K1) (bc hB2 hA))
 have R2b := hide ((zu R2a).bel (bc hB2 hA))
 have R5 : Hid (cb (V2.alloc (.cells #[.int .i64 X, .int .i64 Y, .int .i64 D, .int .i64 N] 72)) V2.heap.size 72 [.int .i64 X, .int .i64 Y, .int .i64 D, .int .i64 N]) := hide (cb_new V2 72 _ _ rfl)
 clear hB2 hA K1 R2a HSM
 go_upto_region 5 with fail
 generalize V2.alloc (.cells #[.int .i64 X, .int .i64 Y, .int .i64 D, .int .i64 N] 72) = V3 at *
 generalize V2.heap.size = g5 at *
 have c0 := (zu R5).cell (m := 0) rfl
 have c1 := (zu R5).cell (m := 1) rfl
 have c2 := (zu R5).cell (m := 2) rfl
 have c3 := (zu R5).cell (m := 3) rfl
 go_wp2_with fail
 refine (zu HTO _ (zu K2)).mono ?_
 rintro e V4 ⟨v, rfl, ⟨g0, rc, rfl, hg0, hgi⟩, hB4⟩
 clear c0 c1 c2 c3
 have hA : Below V4.heap.size V4 (V4.alloc (.cells #[.int .i64 0, .int .i64 0, .int .i64 0] 75)) := ba (Below.refl _ _) _
 have R7 : Hid (cb (V4.alloc (.cells #[.int .i64 0, .int .i64 0, .int .i64 0] 75)) V4.heap.size 75 three0) := hide (cb_new V4 75 three0 _ rfl)
 obtain ⟨W', hcp, hnx, hbt⟩ := copy_told (rc := rc) hl hne (hgi.below hA hg0) (zu R7)
 have l5 : g5 < V4.heap.size := Nat.lt_of_lt_of_le (zu R5).lt hB4.size
 have l2 : w.heap.size < V4.heap.size := Nat.lt_of_lt_of_le (zu R2b).lt hB4.size
 have R5w := hbt.cb (g' := g5) (by omega) (((zu R5).bel hB4).bel hA)
 have R2w : Hid (cb W' w.heap.size 34 z8) := hide (hbt.cb (by omega) (((zu R2b).bel hB4).bel hA))
 have KW : Hid (Below w.heap.size w W') := hide ((ba (bc (zu K2) hB4) _).trans (hbt.bel (by omega)))
 obtain ⟨m, hm⟩ : ∃ m, L.length = m := ⟨_, rfl⟩
 rw [hm] at hcp ⊢
 obtain ⟨n0, hn0⟩ : ∃ q, nth L 0 = q := ⟨_, rfl⟩
 obtain ⟨n1, hn1⟩ : ∃ q, nth L 1 = q := ⟨_, rfl⟩
 obtain ⟨n2, hn2⟩ : ∃ q, nth L 2 = q := ⟨_, rfl⟩
 rw [hn0, hn1, hn2] at hnx
 have HN := hide (⟨hn0, hn1, hn2⟩ : nth L 0 = n0 ∧ nth L 1 = n1 ∧ nth L 2 = n2)
 have d0 := R5w.cell (m := 0) rfl
 have d1 := R5w.cell (m := 1) rfl
 have d2 := R5w.cell (m := 2) rfl
 have d3 := R5w.cell (m := 3) rfl
 have e0 := hnx.cell (m := 0) rfl
 have e1 := hnx.cell (m := 1) rfl
 have e2 := hnx.cell (m := 2) rfl
 have f2 := (zu R2w).frozen
 have o0 := (zu R2w).cell (m := 0) rfl
 have o1 := (zu R2w).cell (m := 1) rfl
 have o2 := (zu R2w).cell (m := 2) rfl
 have o3 := (zu R2w).cell (m := 3) rfl
 have o4 := (zu R2w).cell (m := 4) rfl
 have o5 := (zu R2w).cell (m := 5) rfl
 have o6 := (zu R2w).cell (m := 6) rfl
 have o7 := (zu R2w).cell (m := 7) rfl
 have HM := hide hm
 clear hn0 hn1 hn2 hm hl hne hgi hB4 hA R7 hnx hbt R5w R5 R2b K2 HTO
 go_wp2_with fail
 have T := ((((((((zu R2w).set 0 (.int .i64 (m : Int))).set 1 (.int .i64 n0)).set 2 (.int .i64 n1)).set 3 (.int .i64 n2)).set 4 (.int .i64 X)).set 5 (.int .i64 Y)).set 6 (.int .i64 D)).set 7 (.int .i64 N)
 have hBV : Below w.heap.size w ((((((((W'.setCell ⟨w.heap.size, 0, none⟩ (.int .i64 (m : Int))).setCell ⟨w.heap.size, 1, none⟩ (.int .i64 n0)).setCell ⟨w.heap.size, 2, none⟩ (.int .i64 n1)).setCell ⟨w.heap.size, 3, none⟩ (.int .i64 n2)).setCell ⟨w.heap.size, 4, none⟩ (.int .i64 X)).setCell ⟨w.heap.size, 5, none⟩ (.int .i64 Y)).setCell ⟨w.heap.size, 6, none⟩ (.int .i64 D)).setCell ⟨w.heap.size, 7, none⟩ (.int .i64 N)) :=
  Below.setCell (Below.setCell (Below.setCell (Below.setCell (Below.setCell (Below.setCell (Below.setCell (Below.setCell (zu KW) (Nat.le_refl _) _) (Nat.le_refl _) _) (Nat.le_refl _) _) (Nat.le_refl _) _) (Nat.le_refl _) _) (Nat.le_refl _) _) (Nat.le_refl _) _) (Nat.le_refl _) _
 generalize ((((((((W'.setCell ⟨w.heap.size, 0, none⟩ (.int .i64 (m : Int))).setCell ⟨w.heap.size, 1, none⟩ (.int .i64 n0)).setCell ⟨w.heap.size, 2, none⟩ (.int .i64 n1)).setCell ⟨w.heap.size, 3, none⟩ (.int .i64 n2)).setCell ⟨w.heap.size, 4, none⟩ (.int .i64 X)).setCell ⟨w.heap.size, 5, none⟩ (.int .i64 Y)).setCell ⟨w.heap.size, 6, none⟩ (.int .i64 D)).setCell ⟨w.heap.size, 7, none⟩ (.int .i64 N)) = V9 at *
 have s0 := T.cell (m := 0) rfl
 have s1 := T.cell (m := 1) rfl
 have s2 := T.cell (m := 2) rfl
 have s3 := T.cell (m := 3) rfl
 have s4 := T.cell (m := 4) rfl
 have s5 := T.cell (m := 5) rfl
 have s6 := T.cell (m := 6) rfl
 have s7 := T.cell (m := 7) rfl
 have ls := T.lt
 refine bodyPost_ret (v := .tuple #[.agg #[.int .i64 (m : Int), .int .i64 n0, .int .i64 n1, .int .i64 n2, .int .i64 X, .int .i64 Y, .int .i64 D, .int .i64 N], .int .i64 0]) (by simp [results, Try.results10, go_sem, s0, s1, s2, s3, s4, s5, s6, s7, ls]) rfl ⟨by rw [zu HM, (zu HN).1, (zu HN).2.1, (zu HN).2.2], hBV⟩
set_option maxHeartbeats 4000000 in
set_option maxRecDepth 100000 in
theorem rgP_bad (b cap n : Nat) (cd : Int) (w : World) (hcd : cd ≠ 0)
  (HMC : Hid (∀ X : World, Below w.heap.size w X → Calls Try.prog 21 #[.slice (some ⟨b, 0, none⟩) n cap] X fun e w' => e = .returned (.int .i64 cd) ∧ Below X.heap.size X w')) :
  Calls Try.prog 10 #[.slice (some ⟨b, 0, none⟩) n cap] w fun e w' => e = .returned (.tuple #[.agg #[.int .i64 0, .int .i64 0, .int .i64 0, .int .i64 0, .int .i64 0, .int .i64 0, .int .i64 0, .int .i64 0], .int .i64 cd]) ∧ Below w.heap.size w w' := by
 have K0 : Hid (Below w.heap.size w (w.alloc (.cells #[.int .i64 0, .int .i64 0, .int .i64 0, .int .i64 0, .int .i64 0, .int .i64 0, .int .i64 0, .int .i64 0] 34))) := hide (ba (Below.refl _ _) _)
 have R2 : Hid (cb (w.alloc (.cells #[.int .i64 0, .int .i64 0, .int .i64 0, .int .i64 0, .int .i64 0, .int .i64 0, .int .i64 0, .int .i64 0] 34)) w.heap.size 34 z8) := hide (cb_new w 34 z8 _ rfl)
 have hc : (cd != 0) = true := bne_iff_ne.2 hcd
 go_enter Try.func10, Try.ntmps10
 go_wp2_with fail
 generalize w.alloc (.cells #[.int .i64 0, .int .i64 0, .int .i64 0, .int .i64 0, .int .i64 0, .int .i64 0, .int .i64 0, .int .i64 0] 34) = V0 at *
 refine (zu HMC _ (zu K0)).mono ?_
 rintro e V1 ⟨rfl, hB1⟩
 have K1 := hide (bc (zu K0) hB1)
 have R2w := hide ((zu R2).bel hB1)
 clear hB1 K0 R2 HMC
 have f2 := (zu R2w).frozen
 have o0 := (zu R2w).cell (m := 0) rfl
 have o1 := (zu R2w).cell (m := 1) rfl
 have o2 := (zu R2w).cell (m := 2) rfl
 have o3 := (zu R2w).cell (m := 3) rfl
 have o4 := (zu R2w).cell (m := 4) rfl
 have o5 := (zu R2w).cell (m := 5) rfl
 have o6 := (zu R2w).cell (m := 6) rfl
 have o7 := (zu R2w).cell (m := 7) rfl
 go_wp2_with fail
 have T := ((((((((zu R2w).set 0 (.int .i64 0)).set 1 (.int .i64 0)).set 2 (.int .i64 0)).set 3 (.int .i64 0)).set 4 (.int .i64 0)).set 5 (.int .i64 0)).set 6 (.int .i64 0)).set 7 (.int .i64 0)
 have hBV : Below w.heap.size w ((((((((V1.setCell ⟨w.heap.size, 0, none⟩ (.int .i64 0)).setCell ⟨w.heap.size, 1, none⟩ (.int .i64 0)).setCell ⟨w.heap.size, 2, none⟩ (.int .i64 0)).setCell ⟨w.heap.size, 3, none⟩ (.int .i64 0)).setCell ⟨w.heap.size, 4, none⟩ (.int .i64 0)).setCell ⟨w.heap.size, 5, none⟩ (.int .i64 0)).setCell ⟨w.heap.size, 6, none⟩ (.int .i64 0)).setCell ⟨w.heap.size, 7, none⟩ (.int .i64 0)) :=
  Below.setCell (Below.setCell (Below.setCell (Below.setCell (Below.setCell (Below.setCell (Below.setCell (Below.setCell (zu K1) (Nat.le_refl _) _) (Nat.le_refl _) _) (Nat.le_refl _) _) (Nat.le_refl _) _) (Nat.le_refl _) _) (Nat.le_refl _) _) (Nat.le_refl _) _) (Nat.le_refl _) _
 generalize ((((((((V1.setCell ⟨w.heap.size, 0, none⟩ (.int .i64 0)).setCell ⟨w.heap.size, 1, none⟩ (.int .i64 0)).setCell ⟨w.heap.size, 2, none⟩ (.int .i64 0)).setCell ⟨w.heap.size, 3, none⟩ (.int .i64 0)).setCell ⟨w.heap.size, 4, none⟩ (.int .i64 0)).setCell ⟨w.heap.size, 5, none⟩ (.int .i64 0)).setCell ⟨w.heap.size, 6, none⟩ (.int .i64 0)).setCell ⟨w.heap.size, 7, none⟩ (.int .i64 0)) = V9 at *
 have s0 := T.cell (m := 0) rfl
 have s1 := T.cell (m := 1) rfl
 have s2 := T.cell (m := 2) rfl
 have s3 := T.cell (m := 3) rfl
 have s4 := T.cell (m := 4) rfl
 have s5 := T.cell (m := 5) rfl
 have s6 := T.cell (m := 6) rfl
 have s7 := T.cell (m := 7) rfl
 have ls := T.lt
 refine bodyPost_ret (v := .tuple #[.agg #[.int .i64 0, .int .i64 0, .int .i64 0, .int .i64 0, .int .i64 0, .int .i64 0, .int .i64 0, .int .i64 0], .int .i64 cd]) (by simp [results, Try.results10, go_sem, s0, s1, s2, s3, s4, s5, s6, s7, ls]) rfl ⟨rfl, hBV⟩
theorem rgP_any (b cap : Nat) (P : List Pt) (w : World) (hn : P.length ≤ 1048576) (hcap : P.length ≤ cap) (hb : b < w.heap.size) (hI : IntsAt w b 0 (flat2 P)) :
  Calls Try.prog 10 #[.slice (some ⟨b, 0, none⟩) P.length cap] w fun e w' => e = .returned (.tuple #[rgR P, .int .i64 (mcC P)]) ∧ Below w.heap.size w w' := by
 have HMC : Hid (∀ X : World, Below w.heap.size w X → Calls Try.prog 21 #[.slice (some ⟨b, 0, none⟩) P.length cap] X fun e w' => e = .returned (.int .i64 (mcC P)) ∧ Below X.heap.size X w') := hide fun X hX => mcP_any b cap P X (by omega) (Nat.lt_of_lt_of_le hb hX.size) (ptsAt_flat (hI.below hX hb))
 by_cases h0 : mcC P = 0
 ·have hall : 1 ≤ P.length ∧ P.length ≤ 200 ∧ P.all nrP = true := by
   unfold mcC at h0
   split at h0
   ·omega
   ·split at h0
    ·assumption
    ·omega
  have hne : P ≠ [] := fun e => by rw [e] at hall; simp at hall
  have hN := nrl_all hall.2.2
  have ht := smc_told hne
  have h3 : (tolL P (smc 3 P [])).length ≠ 0 := by
   unfold tolL
   by_cases h1 : (rimL P (smc 3 P [])).length = 1
   ·rw [if_pos h1]; exact ht.1
   ·rw [if_neg h1]
    rcases ht.2 with h | h | h
    ·exact absurd h h1
    ·cases hf : fp (qP2 P (smc 3 P [])) (rimL P (smc 3 P [])) with
     | none => exact absurd hf h
     | some q => simp
    ·cases hf : fp (qP2 P (smc 3 P [])) (rimL P (smc 3 P [])) with
     | some q => simp
     | none =>
      cases hg : ft (qP3 P) (rimL P (smc 3 P [])) with
      | none => exact absurd hg h
      | some q => simp
  have er : rgR P = rgA P := by unfold rgR; rw [if_neg (fun h => h h0)]
  rw [er, h0]
  rw [h0] at HMC
  exact rgP_good b cap P.length (tolL P (smc 3 P [])) (smc 3 P []) w hb HMC
   (hide fun X hX => smP_any 3 b cap P.length 0 0 none P [] X rfl rfl hall.2.1 hcap (Nat.lt_of_lt_of_le hb hX.size) (hI.below hX hb) ⟨rfl, .inl ⟨rfl, rfl, rfl⟩⟩ hN (fun p hp => (nomatch hp)) trivial (fea_any P))
   (hide fun X hX => tolP_any b cap P.length P X rfl hall.2.1 hne (Nat.lt_of_lt_of_le hb hX.size) (hI.below hX hb) hN) (tol_len P _) h3
 ·have er : rgR P = .agg #[.int .i64 0, .int .i64 0, .int .i64 0, .int .i64 0, .int .i64 0, .int .i64 0, .int .i64 0, .int .i64 0] := by unfold rgR; rw [if_pos h0]
  rw [er]
  exact rgP_bad b cap P.length (mcC P) w h0 HMC
set_option maxHeartbeats 1000000 in
theorem fstM_none (b cap n : Nat) (L : List Pt) (p1 p2 : Int) (w : World) (HL : Hid (L.length = n)) (hn : n ≤ 4096) (hb : b < w.heap.size) (HI : Hid (IntsAt w b 0 (flat2 L))) (HF : Hid ((p1, p2) ∉ L)) :
  Calls Try.prog 29 #[.slice (some ⟨b, 0, none⟩) n cap, .agg #[.int .i64 p1, .int .i64 p2]] w fun e w' => e = .returned (.int .i64 0) ∧ Below w.heap.size w w' := by
 have HB := hide (ba (Below.refl w.heap.size w) (.cells #[.int .i64 p1, .int .i64 p2] 30))
 have HV : Hid ((w.alloc (.cells #[.int .i64 p1, .int .i64 p2] 30)).cell? ⟨w.heap.size, 0, none⟩ = some (.int .i64 p1) ∧ (w.alloc (.cells #[.int .i64 p1, .int .i64 p2] 30)).cell? ⟨w.heap.size, 1, none⟩ = some (.int .i64 p2)) := hide ⟨by simp only [World.cell?]; rw [heap_alloc_new]; rfl, by simp only [World.cell?]; rw [heap_alloc_new]; rfl⟩
 have HI2 : Hid (IntsAt (w.alloc (.cells #[.int .i64 p1, .int .i64 p2] 30)) b 0 (flat2 L)) := hide ((zu HI).below (zu HB) hb)
 go_enter Try.func29, Try.ntmps29
 go_wp2_with fail
 generalize w.alloc (.cells #[.int .i64 p1, .int .i64 p2] 30) = W1 at *
 go_loopw [5] (fun z X => ∃ i : Nat, z = .int .i64 (i : Int) ∧ i ≤ n ∧ Same W1 X) (fun z _ => n - (intOf z).toNat)
 case atStart => exact ⟨0, rfl, Nat.zero_le _, Same.refl _⟩
 case round =>
  obtain ⟨i, rfl, hi, hs⟩ := hrel
  have HS := hide hs
  by_cases hin : i < n
  ·have i1 : (i : Int) < (n : Int) := by omega
   have i0 : (0 : Int) ≤ (i : Int) := Int.natCast_nonneg _
   have iz : decide ((i : Int) < (n : Int)) = true := decide_eq_true i1
   obtain ⟨⟨x, y⟩, hx⟩ : ∃ q, L[i]? = some q := ⟨_, List.getElem?_eq_getElem (by rw [zu HL]; omega)⟩
   obtain ⟨c0, c1⟩ := pts_at (zu HI2) hx
   obtain ⟨v0, v1⟩ := zu HV
   rw [← hs.cell] at c0 c1 v0 v1
   have he : (x, y) ≠ (p1, p2) := fun e => zu HF (by rw [← e]; exact List.mem_of_getElem? hx)
   have hq : ∀ X, (binOp .eql 30 (.agg #[.int .i64 x, .int .i64 y]) (.agg #[.int .i64 p1, .int .i64 p2])).run Try.prog X = .ok (.bool false) X := fun X => by rw [eq30, decide_eq_false he]
   clear hs hx he
   go_wp2_with fail
   go_quiet (fail)
   go_wp2_with fail
   go_roundw
   case rel => exact ⟨i + 1, by simp, hin, sameDn (zu HS) _⟩
   case measure => simp only [intOf]; omega
  ·have i1 : ¬ (i : Int) < (n : Int) := by omega
   have iz : decide ((i : Int) < (n : Int)) = false := decide_eq_false i1
   have HBS : Hid (Below W1.heap.size W1 wr) := hide hs.bel
   clear hs
   go_wp2_with fail
   go_ret
   exact ⟨rfl, bc (zu HB) (zu HBS)⟩
def fiO (L : List Pt) (p : Pt) : Nat := if p ∈ L then fi L p else 0
theorem fstM_or (b cap n : Nat) (L : List Pt) (p : Pt) (w : World) (hL : L.length = n) (hn : n ≤ 4096) (hb : b < w.heap.size) (hI : IntsAt w b 0 (flat2 L)) :
  Calls Try.prog 29 #[.slice (some ⟨b, 0, none⟩) n cap, .agg #[.int .i64 p.1, .int .i64 p.2]] w fun e w' => e = .returned (.int .i64 (fiO L p : Int)) ∧ Below w.heap.size w w' := by
 unfold fiO
 by_cases h : p ∈ L
 ·rw [if_pos h]
  exact fstM_any b cap n L p.1 p.2 (fi L p) w (hide hL) hn hb (hide hI) (hide (fi_fst h))
 ·rw [if_neg h]
  exact fstM_none b cap n L p.1 p.2 w (hide hL) hn hb (hide hI) (hide h)
theorem fiO_lt {L : List Pt} (hne : L ≠ []) (p : Pt) : fiO L p < L.length := by
 unfold fiO
 by_cases h : p ∈ L
 ·rw [if_pos h]; exact (fi_idx h).1
 ·rw [if_neg h]
  cases L with
  | nil => exact absurd rfl hne
  | cons a L => simp
theorem fiO_at {L : List Pt} (hne : L ≠ []) (p : Pt) : (decide ((ptAt L (fiO L p)).1 = p.1) && decide ((ptAt L (fiO L p)).2 = p.2)) = decide (p ∈ L) := by
 have e : (decide ((ptAt L (fiO L p)).1 = p.1) && decide ((ptAt L (fiO L p)).2 = p.2)) = decide (ptAt L (fiO L p) = p) := by
  rw [Bool.eq_iff_iff]
  simp [Prod.ext_iff]
 rw [e]
 by_cases h : p ∈ L
 ·have : ptAt L (fiO L p) = p := by unfold fiO; rw [if_pos h]; exact (fi_idx h).2.1
  rw [decide_eq_true this, decide_eq_true h]
 ·have : ¬ ptAt L (fiO L p) = p := fun e2 => h (by rw [← e2]; exact ptAt_mem (fiO_lt hne p))
  rw [decide_eq_false this, decide_eq_false h]
def nl (P H : List Pt) (i : Nat) : List Nat := (List.range i).filter fun j => decide (fi P (ptAt P j) = j) && decide (ptAt P j ∈ H)
theorem nl_all (P : List Pt) : nl P (hullM (srtU P)) P.length = numL P := rfl
theorem nl_succ (P H : List Pt) (i : Nat) : nl P H (i + 1) = if fi P (ptAt P i) = i ∧ ptAt P i ∈ H then nl P H i ++ [i] else nl P H i := by
 unfold nl
 rw [List.range_succ, List.filter_append]
 by_cases h : fi P (ptAt P i) = i ∧ ptAt P i ∈ H
 ·rw [if_pos h]
  simp [h.1, h.2]
 ·rw [if_neg h]
  by_cases h1 : fi P (ptAt P i) = i
  ·have h2 : ¬ ptAt P i ∈ H := fun e => h ⟨h1, e⟩
   simp [h1, h2]
  ·simp [h1]
theorem nl_len (P H : List Pt) (i : Nat) : (nl P H i).length ≤ i := by
 have := List.length_filter_le (fun j => decide (fi P (ptAt P j) = j) && decide (ptAt P j ∈ H)) (List.range i)
 rw [List.length_range] at this
 exact this
set_option maxHeartbeats 8000000 in
set_option maxRecDepth 100000 in
theorem mrM_long (b cap n : Nat) (w : World) (h4 : 4096 < n) :
  Calls Try.prog 11 #[.slice (some ⟨b, 0, none⟩) n cap] w fun e w' => e = .returned (.tuple #[.agg #[.int .i64 0, .int .i64 0, .int .i64 0, .int .i64 0, .int .i64 0, .int .i64 0, .int .i64 0, .int .i64 0], .int .i64 2]) ∧ Below w.heap.size w w' := by
 have d4 : decide ((4096 : Int) < (n : Int)) = true := decide_eq_true (by omega)
 have d5 : (4096 : Int) < (n : Int) := by omega
 go_enter Try.func11, Try.ntmps11
 go_wp2_with fail
 refine bodyPost_ret (v := .tuple #[.agg #[.int .i64 0, .int .i64 0, .int .i64 0, .int .i64 0, .int .i64 0, .int .i64 0, .int .i64 0, .int .i64 0], .int .i64 2]) (by simp [results, Try.results11, go_sem]) rfl ⟨rfl, ba (Below.refl _ _) _⟩
set_option maxHeartbeats 8000000 in
set_option maxRecDepth 100000 in
theorem mrM_far (b cap n : Nat) (w : World) (h4 : n ≤ 4096)
  (HNR : Hid (∀ X : World, Below w.heap.size w X → Calls Try.prog 27 #[.slice (some ⟨b, 0, none⟩) n cap] X fun e w' => e = .returned (.bool false) ∧ Same X w')) :
  Calls Try.prog 11 #[.slice (some ⟨b, 0, none⟩) n cap] w fun e w' => e = .returned (.tuple #[.agg #[.int .i64 0, .int .i64 0, .int .i64 0, .int .i64 0, .int .i64 0, .int .i64 0, .int .i64 0, .int .i64 0], .int .i64 1]) ∧ Below w.heap.size w w' := by
 have d4 : decide ((4096 : Int) < (n : Int)) = false := decide_eq_false (by omega)
 have d5 : ¬ (4096 : Int) < (n : Int) := by omega
 have K0 : Hid (Below w.heap.size w (w.alloc (.cells #[.int .i64 0, .int .i64 0, .int .i64 0, .int .i64 0, .int .i64 0, .int .i64 0, .int .i64 0, .int .i64 0] 34))) := hide (ba (Below.refl _ _) _)
 have R2 : Hid (cb (w.alloc (.cells #[.int .i64 0, .int .i64 0, .int .i64 0, .int .i64 0, .int .i64 0, .int .i64 0, .int .i64 0, .int .i64 0] 34)) w.heap.size 34 z8) := hide (cb_new w 34 z8 _ rfl)
 go_enter Try.func11, Try.ntmps11
 go_wp2_with fail
 generalize w.alloc (.cells #[.int .i64 0, .int .i64 0, .int .i64 0, .int .i64 0, .int .i64 0, .int .i64 0, .int .i64 0, .int .i64 0] 34) = V0 at *
 refine (zu HNR _ (zu K0)).mono ?_
 rintro e V1 ⟨rfl, hs⟩
 have K1 := hide ((zu K0).trans (hs.bel))
 have R2a : Hid (cb V1 w.heap.size 34 z8) := hide (by unfold cb; rw [hs.heap]; exact zu R2)
 clear hs K0 R2
 have o0 := (zu R2a).cell (m := 0) rfl
 have o1 := (zu R2a).cell (m := 1) rfl
 have o2 := (zu R2a).cell (m := 2) rfl
 have o3 := (zu R2a).cell (m := 3) rfl
 have o4 := (zu R2a).cell (m := 4) rfl
 have o5 := (zu R2a).cell (m := 5) rfl
 have o6 := (zu R2a).cell (m := 6) rfl
 have o7 := (zu R2a).cell (m := 7) rfl
 have f2 := (zu R2a).frozen
 go_wp2_with fail
 have T := (((((((((zu R2a).set 0 (.int .i64 0)).set 1 (.int .i64 0)).set 2 (.int .i64 0)).set 3 (.int .i64 0)).set 4 (.int .i64 0)).set 5 (.int .i64 0)).set 6 (.int .i64 0)).set 7 (.int .i64 0))
 have hBV : Below w.heap.size w ((((((((V1.setCell ⟨w.heap.size, 0, none⟩ (.int .i64 0)).setCell ⟨w.heap.size, 1, none⟩ (.int .i64 0)).setCell ⟨w.heap.size, 2, none⟩ (.int .i64 0)).setCell ⟨w.heap.size, 3, none⟩ (.int .i64 0)).setCell ⟨w.heap.size, 4, none⟩ (.int .i64 0)).setCell ⟨w.heap.size, 5, none⟩ (.int .i64 0)).setCell ⟨w.heap.size, 6, none⟩ (.int .i64 0)).setCell ⟨w.heap.size, 7, none⟩ (.int .i64 0)) := (Below.setCell (Below.setCell (Below.setCell (Below.setCell (Below.setCell (Below.setCell (Below.setCell (Below.setCell (zu K1) (Nat.le_refl _) _) (Nat.le_refl _) _) (Nat.le_refl _) _) (Nat.le_refl _) _) (Nat.le_refl _) _) (Nat.le_refl _) _) (Nat.le_refl _) _) (Nat.le_refl _) _)
 generalize ((((((((V1.setCell ⟨w.heap.size, 0, none⟩ (.int .i64 0)).setCell ⟨w.heap.size, 1, none⟩ (.int .i64 0)).setCell ⟨w.heap.size, 2, none⟩ (.int .i64 0)).setCell ⟨w.heap.size, 3, none⟩ (.int .i64 0)).setCell ⟨w.heap.size, 4, none⟩ (.int .i64 0)).setCell ⟨w.heap.size, 5, none⟩ (.int .i64 0)).setCell ⟨w.heap.size, 6, none⟩ (.int .i64 0)).setCell ⟨w.heap.size, 7, none⟩ (.int .i64 0)) = V9 at *
 have s0 := T.cell (m := 0) rfl
 have s1 := T.cell (m := 1) rfl
 have s2 := T.cell (m := 2) rfl
 have s3 := T.cell (m := 3) rfl
 have s4 := T.cell (m := 4) rfl
 have s5 := T.cell (m := 5) rfl
 have s6 := T.cell (m := 6) rfl
 have s7 := T.cell (m := 7) rfl
 have ls := T.lt
 refine bodyPost_ret (v := .tuple #[.agg #[.int .i64 0, .int .i64 0, .int .i64 0, .int .i64 0, .int .i64 0, .int .i64 0, .int .i64 0, .int .i64 0], .int .i64 1]) (by simp [results, Try.results11, go_sem, s0, s1, s2, s3, s4, s5, s6, s7, ls]) rfl ⟨rfl, hBV⟩
set_option maxHeartbeats 8000000 in
set_option maxRecDepth 100000 in
theorem mrM_one (b cap n hb hc : Nat) (p1 p2 X Y D N : Int) (w : World) (h4 : n ≤ 4096)
  (HNR : Hid (∀ X : World, Below w.heap.size w X → Calls Try.prog 27 #[.slice (some ⟨b, 0, none⟩) n cap] X fun e w' => e = .returned (.bool true) ∧ Same X w'))
  (HHU : Hid (∀ X : World, Below w.heap.size w X → Calls Try.prog 28 #[.slice (some ⟨b, 0, none⟩) n cap] X fun e w' => ∃ v, e = .returned v ∧ Row w' X.heap.size 30 2 v 1 [p1, p2] ∧ Below X.heap.size X w'))
  (HC : Hid (∀ W : World, Calls Try.prog 42 #[.int .i64 p1, .int .i64 p2, .int .i64 1, .agg #[.int .i64 p1, .int .i64 p2]] W fun e w' => e = .returned (rgV 0 0 0 0 ⟨X, Y, D, N⟩) ∧ Below W.heap.size W w')) :
  Calls Try.prog 11 #[.slice (some ⟨b, 0, none⟩) n cap] w fun e w' => e = .returned (.tuple #[rgV 1 0 0 0 ⟨X, Y, D, N⟩, .int .i64 0]) ∧ Below w.heap.size w w' := by
 have d4 : decide ((4096 : Int) < (n : Int)) = false := decide_eq_false (by omega)
 have d5 : ¬ (4096 : Int) < (n : Int) := by omega
 unfold rgV at HC ⊢
 simp only at HC ⊢
 have K0 : Hid (Below w.heap.size w (w.alloc (.cells #[.int .i64 0, .int .i64 0, .int .i64 0, .int .i64 0, .int .i64 0, .int .i64 0, .int .i64 0, .int .i64 0] 34))) := hide (ba (Below.refl _ _) _)
 have R2 : Hid (cb (w.alloc (.cells #[.int .i64 0, .int .i64 0, .int .i64 0, .int .i64 0, .int .i64 0, .int .i64 0, .int .i64 0, .int .i64 0] 34)) w.heap.size 34 z8) := hide (cb_new w 34 z8 _ rfl)
 go_enter Try.func11, Try.ntmps11
 go_wp2_with fail
 generalize w.alloc (.cells #[.int .i64 0, .int .i64 0, .int .i64 0, .int .i64 0, .int .i64 0, .int .i64 0, .int .i64 0, .int .i64 0] 34) = V0 at *
 refine (zu HNR _ (zu K0)).mono ?_
 rintro e V1 ⟨rfl, hs⟩
 have K1 := hide ((zu K0).trans (hs.bel))
 have R2a : Hid (cb V1 w.heap.size 34 z8) := hide (by unfold cb; rw [hs.heap]; exact zu R2)
 clear hs K0 R2 HNR
 go_wp2_with fail
 refine (zu HHU _ (zu K1)).mono ?_
 rintro e V2 ⟨v, rfl, hr, hB2⟩
 obtain ⟨gh, ch, rfl, hg1, hg2, hri, hc1, hc2⟩ := hr.full (by decide)
 have K2 := hide (bc (zu K1) hB2)
 have R2b := hide ((zu R2a).bel hB2)
 have H0 := hide (cells_of hri (j := 0) (x := p1) rfl)
 have H1 := hide (cells_of hri (j := 1) (x := p2) rfl)
 clear hr hB2 K1 R2a hri HHU
 go_wp2_with fail
 refine Go.Code.wp_mono (Only.to (fun _ _ h => h)) (mr7 (X := X) (Y := Y) (D := D) (N := N) H0 H1 (hide fun X _ => zu HC X) (fun g5 V3 hB3 v5 g5s => ?_))
 have K3 := hide (bc (zu K2) hB3)
 have R2c := hide ((zu R2b).bel hB3)
 have R5 := hide v5
 have l2 : w.heap.size < g5 := Nat.lt_of_lt_of_le (zu R2b).lt g5s
 clear hB3 K2 R2b v5 g5s H0 H1
 have f5 := (zu R5).frozen
 have l5 := (zu R5).lt
 have c0 := (zu R5).cell (m := 0) rfl
 have c1 := (zu R5).cell (m := 1) rfl
 have c2 := (zu R5).cell (m := 2) rfl
 have c3 := (zu R5).cell (m := 3) rfl
 have c4 := (zu R5).cell (m := 4) rfl
 have c5 := (zu R5).cell (m := 5) rfl
 have c6 := (zu R5).cell (m := 6) rfl
 have c7 := (zu R5).cell (m := 7) rfl
 go_upto_region 9 with fail
 have T5 := hide ((zu R5).set 0 (.int .i64 1))
 have R2d : Hid (cb (V3.setCell ⟨g5, 0, none⟩ (.int .i64 1)) w.heap.size 34 z8) := hide ((zu R2c).ne (by omega))
 have K4 : Hid (Below w.heap.size w (V3.setCell ⟨g5, 0, none⟩ (.int .i64 1))) := hide (Below.setCell (zu K3) (Nat.le_of_lt l2) _)
 clear R5 R2c K3 f5 l5 c0 c1 c2 c3 c4 c5 c6 c7
 generalize V3.setCell ⟨g5, 0, none⟩ (.int .i64 1) = V4 at *
 have c0 := (zu T5).cell (m := 0) rfl
 have c1 := (zu T5).cell (m := 1) rfl
 have c2 := (zu T5).cell (m := 2) rfl
 have c3 := (zu T5).cell (m := 3) rfl
 have c4 := (zu T5).cell (m := 4) rfl
 have c5 := (zu T5).cell (m := 5) rfl
 have c6 := (zu T5).cell (m := 6) rfl
 have c7 := (zu T5).cell (m := 7) rfl
 have o0 := (zu R2d).cell (m := 0) rfl
 have o1 := (zu R2d).cell (m := 1) rfl
 have o2 := (zu R2d).cell (m := 2) rfl
 have o3 := (zu R2d).cell (m := 3) rfl
 have o4 := (zu R2d).cell (m := 4) rfl
 have o5 := (zu R2d).cell (m := 5) rfl
 have o6 := (zu R2d).cell (m := 6) rfl
 have o7 := (zu R2d).cell (m := 7) rfl
 have f2 := (zu R2d).frozen
 go_wp2_with fail
 have T := (((((((((zu R2d).set 0 (.int .i64 1)).set 1 (.int .i64 0)).set 2 (.int .i64 0)).set 3 (.int .i64 0)).set 4 (.int .i64 X)).set 5 (.int .i64 Y)).set 6 (.int .i64 D)).set 7 (.int .i64 N))
 have hBV : Below w.heap.size w ((((((((V4.setCell ⟨w.heap.size, 0, none⟩ (.int .i64 1)).setCell ⟨w.heap.size, 1, none⟩ (.int .i64 0)).setCell ⟨w.heap.size, 2, none⟩ (.int .i64 0)).setCell ⟨w.heap.size, 3, none⟩ (.int .i64 0)).setCell ⟨w.heap.size, 4, none⟩ (.int .i64 X)).setCell ⟨w.heap.size, 5, none⟩ (.int .i64 Y)).setCell ⟨w.heap.size, 6, none⟩ (.int .i64 D)).setCell ⟨w.heap.size, 7, none⟩ (.int .i64 N)) := (Below.setCell (Below.setCell (Below.setCell (Below.setCell (Below.setCell (Below.setCell (Below.setCell (Below.setCell (zu K4) (Nat.le_refl _) _) (Nat.le_refl _) _) (Nat.le_refl _) _) (Nat.le_refl _) _) (Nat.le_refl _) _) (Nat.le_refl _) _) (Nat.le_refl _) _) (Nat.le_refl _) _)
 generalize ((((((((V4.setCell ⟨w.heap.size, 0, none⟩ (.int .i64 1)).setCell ⟨w.heap.size, 1, none⟩ (.int .i64 0)).setCell ⟨w.heap.size, 2, none⟩ (.int .i64 0)).setCell ⟨w.heap.size, 3, none⟩ (.int .i64 0)).setCell ⟨w.heap.size, 4, none⟩ (.int .i64 X)).setCell ⟨w.heap.size, 5, none⟩ (.int .i64 Y)).setCell ⟨w.heap.size, 6, none⟩ (.int .i64 D)).setCell ⟨w.heap.size, 7, none⟩ (.int .i64 N)) = V9 at *
 have s0 := T.cell (m := 0) rfl
 have s1 := T.cell (m := 1) rfl
 have s2 := T.cell (m := 2) rfl
 have s3 := T.cell (m := 3) rfl
 have s4 := T.cell (m := 4) rfl
 have s5 := T.cell (m := 5) rfl
 have s6 := T.cell (m := 6) rfl
 have s7 := T.cell (m := 7) rfl
 have ls := T.lt
 refine bodyPost_ret (v := .tuple #[.agg #[.int .i64 1, .int .i64 0, .int .i64 0, .int .i64 0, .int .i64 X, .int .i64 Y, .int .i64 D, .int .i64 N], .int .i64 0]) (by simp [results, Try.results11, go_sem, s0, s1, s2, s3, s4, s5, s6, s7, ls]) rfl ⟨rfl, hBV⟩
end Go.Proofs.Ytdcecfgmfmpeeaa
