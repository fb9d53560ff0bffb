/-
  Points that are near enough: both sides ask it alike. slices.Compact of points: a row without its runs. slices.Compact of points, walked. slices.SortFunc of points, laid at the seat. slices.SortFunc of points by comparePoints: a permutation, sorted. Hull of the program and of the model: the same points and the same code at every list. Hull of the model and of the program at every list of points, right or not. The program's ZoneOf.
-/
import Derived.Test.YtdcecfgmfmpeeaaZfnq
import Derived.Test.YtdcecfgmfmpeeaaOrder2q
import Derived.Test.YtdcecfgmfmpeeaaHtaq
import Derived.Lib.SliceRun
import Derived.Shelf.SlSortCmp.WholeK
import Derived.Shelf.SlGeneric
import Derived.Ground.SlsfProg
import Derived.Test.YtdcecfgmfmpeeaaProg
import Derived.Test.YtdcecfgmfmpeeaaZp8q
namespace Go.Proofs.Ytdcecfgmfmpeeaa
open Go.ChangeShapes Go.WideShapes Go.ChangeAt Go.RowKit Go.Shelf
set_option linter.unusedVariables false
set_option linter.unusedSimpArgs false
def nrP (p : Pt) : Bool := decide (-200 ≤ p.1 ∧ p.1 ≤ 200 ∧ -200 ≤ p.2 ∧ p.2 ≤ 200)
theorem brP_ints (a1 a2 : Int) (w : World) :
  Calls Try.prog 51 #[.agg #[.int .i64 a1, .int .i64 a2]] w fun e w' => e = .returned (.bool (!nrP (a1, a2))) ∧ Below w.heap.size w w' := by
 have HB := hide (ba (Below.refl w.heap.size w) (.cells #[.int .i64 a1, .int .i64 a2] 30))
 have HE : Hid ((!nrP (a1, a2)) = (!(decide (-200 ≤ a1) && decide (a1 ≤ 200)) || !(decide (-200 ≤ a2) && decide (a2 ≤ 200)))) := hide (by
  unfold nrP
  rw [Bool.eq_iff_iff]
  simp
  omega)
 rw [zu HE]
 cases h1 : (decide (-200 ≤ a1) && decide (a1 ≤ 200)) with
 | false =>
  have H1 := hide (fun X => btw_any a1 (-200) 200 X)
  rw [h1] at H1
  clear h1
  go_enter Try.func51, Try.ntmps51
  go_wp2_with fail
  refine (zu H1 _).mono ?_
  rintro e w' ⟨rfl, hq⟩
  rw [hq]
  clear hq
  go_wp2_with fail
  go_ret
  exact ⟨rfl, zu HB⟩
 | true =>
  have H1 := hide (fun X => btw_any a1 (-200) 200 X)
  have H2 := hide (fun X => btw_any a2 (-200) 200 X)
  rw [h1] at H1
  clear h1
  generalize (decide (-200 ≤ a2) && decide (a2 ≤ 200)) = t2 at *
  go_enter Try.func51, Try.ntmps51
  go_wp2_with fail
  refine (zu H1 _).mono ?_
  rintro e w' ⟨rfl, hq⟩
  rw [hq]
  clear hq
  go_wp2_with fail
  refine (zu H2 _).mono ?_
  rintro e w' ⟨rfl, hq⟩
  rw [hq]
  clear hq
  cases t2 <;>
  ·go_wp2_with fail
   go_ret
   exact ⟨rfl, zu HB⟩
theorem br_pred (w : World) : PredBelow Try.prog 51 #[] (fun x : Pt => .agg (encPt x).toArray) (fun x => !nrP x) w := fun W x hb => by
 show Calls Try.prog 51 #[.agg #[.int .i64 x.1, .int .i64 x.2]] W _
 exact (brP_ints x.1 x.2 W).mono fun e w' ⟨he, hw⟩ => ⟨he, hb.trans (hw.mono hb.size)⟩
theorem enters51 : ∀ args w, (callFunc 51 args).run Try.prog w = .ok (.enter 51 args) w := enters_of Try.func51 (by kernel_rfl) rfl
def mcC (L : List Pt) : Int := if 4096 < L.length then 2 else if 1 ≤ L.length ∧ L.length ≤ 200 ∧ L.all nrP = true then 0 else 1
theorem anyN (L : List Pt) : (L.any fun x => !nrP x) = !(L.all nrP) := by
 induction L with
 | nil => rfl
 | cons x L ih => simp only [List.any_cons, List.all_cons, ih]; cases nrP x <;> simp
set_option maxHeartbeats 1000000 in
set_option maxRecDepth 100000 in
theorem mcP_any (b cap : Nat) (L : List Pt) (w : World) (hn : L.length ≤ 4611686018427387904) (hb : b < w.heap.size) (hc : PtsAt w b 0 L) :
  Calls Try.prog 21 #[.slice (some ⟨b, 0, none⟩) L.length cap] w fun e w' => e = .returned (.int .i64 (mcC L)) ∧ Below w.heap.size w w' := by
 have hcon := AnyQ.slices_ContainsFunc Try.l50 2 Try.isAgg30 Try.sizeOf30 encPt (fun _ => rfl) (fun x => !nrP x) 51 #[] enters51 b 0 L.length cap L w (br_pred w) (Nat.le_refl _) (by omega) hb (enc_cells hc)
 change Calls Try.prog 50 _ _ _ at hcon
 rw [List.take_length, anyN] at hcon
 have HCO := hide hcon
 have HBT := hide (fun X => btw_any (L.length : Int) 1 200 X)
 unfold mcC
 clear hcon hc
 by_cases h1 : 4096 < L.length
 ·rw [if_pos h1]
  have d0 : decide ((4096 : Int) < (L.length : Int)) = true := decide_eq_true (by omega)
  go_enter Try.func21, Try.ntmps21
  go_wp2_with fail
  go_ret
  exact ⟨rfl, Below.refl _ _⟩
 ·rw [if_neg h1]
  have d0 : decide ((4096 : Int) < (L.length : Int)) = false := decide_eq_false (by omega)
  by_cases h2 : 1 ≤ L.length ∧ L.length ≤ 200
  ·rw [show (decide ((1 : Int) ≤ (L.length : Int)) && decide ((L.length : Int) ≤ 200)) = true by simp; omega] at HBT
   cases ho : L.all nrP with
   | true =>
    rw [if_pos ⟨h2.1, h2.2, rfl⟩]
    rw [ho] at HCO
    generalize L.length = N at *
    go_enter Try.func21, Try.ntmps21
    go_wp2_with fail
    refine (zu HBT _).mono ?_
    rintro e w' ⟨rfl, hq⟩
    rw [hq]
    clear hq
    go_wp2_with fail
    refine (zu HCO).mono ?_
    rintro e w' ⟨rfl, hb'⟩
    have HB := hide hb'
    clear hb'
    go_wp2_with fail
    go_ret
    exact ⟨rfl, zu HB⟩
   | false =>
    rw [if_neg (by simp)]
    rw [ho] at HCO
    generalize L.length = N at *
    go_enter Try.func21, Try.ntmps21
    go_wp2_with fail
    refine (zu HBT _).mono ?_
    rintro e w' ⟨rfl, hq⟩
    rw [hq]
    clear hq
    go_wp2_with fail
    refine (zu HCO).mono ?_
    rintro e w' ⟨rfl, hb'⟩
    have HB := hide hb'
    clear hb'
    go_wp2_with fail
    go_ret
    exact ⟨rfl, zu HB⟩
  ·rw [if_neg (by omega)]
   rw [show (decide ((1 : Int) ≤ (L.length : Int)) && decide ((L.length : Int) ≤ 200)) = false by rw [Bool.and_eq_false_iff, decide_eq_false_iff_not, decide_eq_false_iff_not]; omega] at HBT
   go_enter Try.func21, Try.ntmps21
   go_wp2_with fail
   refine (zu HBT _).mono ?_
   rintro e w' ⟨rfl, hq⟩
   rw [hq]
   clear hq
   go_wp2_with fail
   go_ret
   exact ⟨rfl, Below.refl _ _⟩
def abW (x : Int) : Int := if x < 0 then IntKind.i64.wrap (-x) else x
theorem abM_any (x : Int) (w : World) : Calls Try.prog 57 #[.int .i64 x] w fun e w' => e = .returned (.int .i64 (abW x)) ∧ w' = w := by
 unfold abW
 by_cases h : x < 0
 ·rw [if_pos h]
  have d := decide_eq_true h
  generalize hq : IntKind.i64.wrap (-x) = q at *
  have hq2 : IntKind.i64.wrap (0 - x) = q := by rw [← hq]; congr 1; omega
  go_enter Try.func57, Try.ntmps57
  go_wp2_with fail
  go_ret
  exact ⟨by first | rfl | (simp [hq, hq2]), rfl⟩
 ·rw [if_neg h]
  have d := decide_eq_false h
  go_enter Try.func57, Try.ntmps57
  go_wp2_with fail
  go_ret
  exact ⟨rfl, rfl⟩
theorem ab_far (x : Int) : (200 < abW x ∨ x < -200) ↔ ¬ (-200 ≤ x ∧ x ≤ 200) := by
 unfold abW
 by_cases h : x < 0
 ·rw [if_pos h]
  by_cases h2 : x < -200
  ·constructor
   ·intro _; omega
   ·intro _; exact .inr h2
  ·have : IntKind.i64.wrap (-x) = -x := wr64 (by omega) (by omega)
   rw [this]
   omega
 ·rw [if_neg h]
  omega
theorem nr_iff (x y : Int) : nrP (x, y) = true ↔ (¬ 200 < abW x ∧ ¬ 200 < abW y ∧ ¬ x < -200 ∧ ¬ y < -200) := by
 have h1 := ab_far x
 have h2 := ab_far y
 unfold nrP
 rw [decide_eq_true_iff]
 simp only
 constructor
 ·rintro ⟨a1, a2, a3, a4⟩
  exact ⟨fun h => h1.1 (.inl h) ⟨a1, a2⟩, fun h => h2.1 (.inl h) ⟨a3, a4⟩, fun h => h1.1 (.inr h) ⟨a1, a2⟩, fun h => h2.1 (.inr h) ⟨a3, a4⟩⟩
 ·rintro ⟨b1, b2, b3, b4⟩
  have c1 : -200 ≤ x ∧ x ≤ 200 := Classical.byContradiction (fun hn => (h1.2 hn).elim b1 b3)
  have c2 : -200 ≤ y ∧ y ≤ 200 := Classical.byContradiction (fun hn => (h2.2 hn).elim b2 b4)
  exact ⟨c1.1, c1.2, c2.1, c2.2⟩
set_option maxHeartbeats 2000000 in
set_option maxRecDepth 100000 in
theorem nrM_any (b cap n : Nat) (L : List Pt) (w : World) (HL : Hid (L.length = n)) (hn : n ≤ 4611686018427387904) (HI : Hid (IntsAt w b 0 (flat2 L))) :
  Calls Try.prog 27 #[.slice (some ⟨b, 0, none⟩) n cap] w fun e w' => e = .returned (.bool (decide (1 ≤ n ∧ n ≤ 200) && L.all nrP)) ∧ Same w w' := by
 by_cases h1 : n < 1
 ·have d1 : decide ((n : Int) < 1) = true := decide_eq_true (by omega)
  have e1 : decide (1 ≤ n ∧ n ≤ 200) = false := decide_eq_false (by omega)
  rw [e1]
  go_enter Try.func27, Try.ntmps27
  go_wp2_with fail
  go_ret
  exact ⟨rfl, Same.refl _⟩
 ·have d1 : decide ((n : Int) < 1) = false := decide_eq_false (by omega)
  by_cases h2 : 200 < n
  ·have d2 : decide ((200 : Int) < (n : Int)) = true := decide_eq_true (by omega)
   have e1 : decide (1 ≤ n ∧ n ≤ 200) = false := decide_eq_false (by omega)
   rw [e1]
   go_enter Try.func27, Try.ntmps27
   go_wp2_with fail
   go_ret
   exact ⟨rfl, Same.refl _⟩
  ·have d2 : decide ((200 : Int) < (n : Int)) = false := decide_eq_false (by omega)
   have e1 : decide (1 ≤ n ∧ n ≤ 200) = true := decide_eq_true (by omega)
   rw [e1, Bool.true_and]
   go_enter Try.func27, Try.ntmps27
   go_wp2_with fail
   go_loopw [3] (fun z X => ∃ i : Nat, z = .int .i64 (i : Int) ∧ i ≤ n ∧ (∀ j p, j < i → L[j]? = some p → nrP p = true) ∧ Same w X) (fun z _ => n - (intOf z).toNat)
   case atStart => exact ⟨0, rfl, Nat.zero_le _, fun j p h => by omega, Same.refl _⟩
   case round =>
    obtain ⟨i, rfl, hi, hall, hs⟩ := hrel
    have HA := hide hall
    have HS := hide hs
    by_cases h : i < n
    ·have i1 : (i : Int) < (n : Int) := by omega
     have i0 : (0 : Int) ≤ (i : Int) := Int.natCast_nonneg _
     have iz : decide ((i : Int) < (n : Int)) = true := decide_eq_true i1
     obtain ⟨⟨x, y⟩, hx⟩ : ∃ q, L[i]? = some q := ⟨_, List.getElem?_eq_getElem (by rw [zu HL]; omega)⟩
     obtain ⟨c0, c1⟩ := pts_at (zu HI) hx
     rw [← hs.cell] at c0 c1
     have HX := hide hx
     have HAX := hide (fun X => abM_any x X)
     have HAY := hide (fun X => abM_any y X)
     have HNO : Hid (nrP (x, y) = false → L.all nrP = false) := hide (fun h0 => by
      rw [List.all_eq_false]
      exact ⟨(x, y), List.mem_of_getElem? hx, by rw [h0]; simp⟩)
     have HIF := hide (nr_iff x y)
     generalize abW x = ax at *
     generalize abW y = ay at *
     clear hall hs hx
     by_cases g1 : 200 < ax
     ·have t1 := decide_eq_true g1
      have HR : Hid (L.all nrP = false) := hide (zu HNO (Bool.eq_false_iff.2 (fun e => ((zu HIF).1 e).1 g1)))
      go_wp2_with fail
      refine (zu HAX _).mono ?_
      rintro e w' ⟨rfl, hq⟩
      rw [hq]
      clear hq
      go_wp2_with fail
      go_ret
      exact ⟨ret_bool (zu HR).symm, zu HS⟩
     ·have t1 := decide_eq_false g1
      by_cases g2 : 200 < ay
      ·have t2 := decide_eq_true g2
       have HR : Hid (L.all nrP = false) := hide (zu HNO (Bool.eq_false_iff.2 (fun e => ((zu HIF).1 e).2.1 g2)))
       go_wp2_with fail
       refine (zu HAX _).mono ?_
       rintro e w' ⟨rfl, hq⟩
       rw [hq]
       clear hq
       go_wp2_with fail
       refine (zu HAY _).mono ?_
       rintro e w' ⟨rfl, hq⟩
       rw [hq]
       clear hq
       go_wp2_with fail
       go_ret
       exact ⟨ret_bool (zu HR).symm, zu HS⟩
      ·have t2 := decide_eq_false g2
       by_cases g3 : x < -200
       ·have t3 := decide_eq_true g3
        have HR : Hid (L.all nrP = false) := hide (zu HNO (Bool.eq_false_iff.2 (fun e => ((zu HIF).1 e).2.2.1 g3)))
        go_wp2_with fail
        refine (zu HAX _).mono ?_
        rintro e w' ⟨rfl, hq⟩
        rw [hq]
        clear hq
        go_wp2_with fail
        refine (zu HAY _).mono ?_
        rintro e w' ⟨rfl, hq⟩
        rw [hq]
        clear hq
        go_wp2_with fail
        go_ret
        exact ⟨ret_bool (zu HR).symm, zu HS⟩
       ·have t3 := decide_eq_false g3
        by_cases g4 : y < -200
        ·have t4 := decide_eq_true g4
         have HR : Hid (L.all nrP = false) := hide (zu HNO (Bool.eq_false_iff.2 (fun e => ((zu HIF).1 e).2.2.2 g4)))
         go_wp2_with fail
         refine (zu HAX _).mono ?_
         rintro e w' ⟨rfl, hq⟩
         rw [hq]
         clear hq
         go_wp2_with fail
         refine (zu HAY _).mono ?_
         rintro e w' ⟨rfl, hq⟩
         rw [hq]
         clear hq
         go_wp2_with fail
         go_ret
         exact ⟨ret_bool (zu HR).symm, zu HS⟩
        ·have t4 := decide_eq_false g4
         have HOK : Hid (nrP (x, y) = true) := hide ((zu HIF).2 ⟨g1, g2, g3, g4⟩)
         go_wp2_with fail
         refine (zu HAX _).mono ?_
         rintro e w' ⟨rfl, hq⟩
         rw [hq]
         clear hq
         go_wp2_with fail
         refine (zu HAY _).mono ?_
         rintro e w' ⟨rfl, hq⟩
         rw [hq]
         clear hq
         go_wp2_with fail
         go_roundw
         case rel =>
          refine ⟨i + 1, by simp, h, fun j p hj hp => ?_, zu HS⟩
          by_cases e : j = i
          ·subst e
           rw [zu HX] at hp
           cases hp
           exact zu HOK
          ·exact zu HA j p (by omega) hp
         case measure => simp only [intOf]; omega
    ·have iz : decide ((i : Int) < (n : Int)) = false := decide_eq_false (by omega)
     have HR : Hid (L.all nrP = true) := hide (by
      rw [List.all_eq_true]
      intro p hp
      obtain ⟨j, hj, rfl⟩ := List.getElem_of_mem hp
      exact hall j _ (by rw [zu HL] at hj; omega) (List.getElem?_eq_getElem hj))
     clear hall hs
     go_wp2_with fail
     go_ret
     exact ⟨ret_bool (zu HR).symm, zu HS⟩
open Go.ChangeShapes Go.WideShapes Go.ChangeAt Go.RowKit
theorem compU_snoc (L : List Pt) (a b : Pt) : compU (L ++ [a, b]) = if a = b then compU (L ++ [a]) else compU (L ++ [a]) ++ [b] := by
 induction L with
 | nil =>
  by_cases h : a = b
  ·subst h
   simp [compU]
  ·simp [compU, h]
 | cons x L ih =>
  cases L with
  | nil =>
   show compU (x :: a :: [b]) = _
   rw [compU]
   show _ = if a = b then compU (x :: [a]) else compU (x :: [a]) ++ [b]
   by_cases h : a = b
   ·subst h
    by_cases h2 : x = a
    ·subst h2
     simp [compU]
    ·simp [compU, h2]
   ·by_cases h2 : x = a
    ·subst h2
     simp [compU, h]
    ·simp [compU, h, h2]
  | cons y L =>
   show compU (x :: y :: (L ++ [a, b])) = _
   rw [compU]
   have ih' : compU (y :: (L ++ [a, b])) = if a = b then compU (y :: (L ++ [a])) else compU (y :: (L ++ [a])) ++ [b] := ih
   show _ = if a = b then compU (x :: y :: (L ++ [a])) else compU (x :: y :: (L ++ [a])) ++ [b]
   rw [show compU (x :: y :: (L ++ [a])) = if x = y then compU (y :: (L ++ [a])) else x :: compU (y :: (L ++ [a])) from by rw [compU]]
   rw [ih']
   by_cases h : a = b
   ·rw [if_pos h, if_pos h]
   ·rw [if_neg h, if_neg h]
    by_cases h2 : x = y
    ·rw [if_pos h2, if_pos h2]
    ·rw [if_neg h2, if_neg h2]
     rfl
theorem compU_step {D : List Pt} {k : Nat} {a b : Pt} (ha : D[k]? = some a) (hb : D[k + 1]? = some b) : compU (D.take (k + 2)) = if a = b then compU (D.take (k + 1)) else compU (D.take (k + 1)) ++ [b] := by
 have e1 : D.take (k + 1) = D.take k ++ [a] := by rw [List.take_add_one, ha]; rfl
 have e2 : D.take (k + 2) = D.take k ++ [a, b] := by rw [show k + 2 = k + 1 + 1 by rfl, List.take_add_one, hb, e1]; simp
 rw [e1, e2]
 exact compU_snoc _ a b
theorem compU_none {D : List Pt} : ∀ k, k ≤ D.length → (∀ j a b, j + 1 < k → D[j]? = some a → D[j + 1]? = some b → a ≠ b) → compU (D.take k) = D.take k := by
 intro k
 induction k with
 | zero => intro _ _; rfl
 | succ k ih =>
  intro hk h
  cases k with
  | zero =>
   cases D with
   | nil => simp at hk
   | cons x D => rfl
  | succ k =>
   have ha := List.getElem?_eq_getElem (show k < D.length by omega)
   have hb := List.getElem?_eq_getElem (show k + 1 < D.length by omega)
   rw [compU_step ha hb, if_neg (h k _ _ (by omega) ha hb), ih (by omega) (fun j a b hj => h j a b (by omega))]
   rw [show k + 1 + 1 = (k + 1) + 1 by rfl, List.take_add_one (l := D) (i := k + 1), hb]
   rfl
theorem Row.set {w : World} {B t k g n cap : Nat} {L : List Int} (h : Row w B t k (.slice (some ⟨g, 0, none⟩) n cap) n L) (j : Nat) (hj : j < n * k) (x : Int) :
  Row (w.setCell ⟨g, j, none⟩ (.int .i64 x)) B t k (.slice (some ⟨g, 0, none⟩) n cap) n (L.set j x) := by
 refine ⟨by have := h.1; simpa using this, ?_⟩
 rcases h.2 with ⟨h1, h2⟩ | ⟨g', cap', cur, hv, hB, hh, hn, hm, hs, ht⟩
 ·cases h1
 ·cases hv
  refine .inr ⟨g, cap, cur.setIfInBounds j (.int .i64 x), rfl, hB, ?_, hn, hm, by simp [hs], ?_⟩
  ·show (w.heap.modify g _)[g]? = _
   rw [Array.getElem?_modify, if_pos rfl, hh]
   simp
  ·rw [Array.toList_setIfInBounds, List.take_set, ht, List.map_set]
theorem Row.sets {B t k g n cap : Nat} : ∀ (xs : List Int) (o : Nat) (w : World) (L : List Int), Row w B t k (.slice (some ⟨g, 0, none⟩) n cap) n L → o + xs.length ≤ n * k → ∃ L', Row (w.setCells g o (xs.map (Value.int .i64))) B t k (.slice (some ⟨g, 0, none⟩) n cap) n L' ∧ L'.take o = L.take o := by
 intro xs
 induction xs with
 | nil => intro o w L h _; exact ⟨L, h, rfl⟩
 | cons x xs ih =>
  intro o w L h ho
  simp only [List.length_cons] at ho
  obtain ⟨L', h1, h2⟩ := ih (o + 1) (w.setCell ⟨g, o, none⟩ (.int .i64 x)) (L.set o x) (h.set o (by omega) x) (by omega)
  refine ⟨L', h1, ?_⟩
  have e := congrArg (List.take o) h2
  rw [List.take_take, List.take_take, Nat.min_eq_left (by omega), List.take_set] at e
  rw [e]
  apply List.set_eq_of_length_le
  rw [List.length_take]
  omega
theorem Below.sets {B g : Nat} (hg : B ≤ g) : ∀ (vs : List Value) (o : Nat) (w0 w : World), Below B w0 w → Below B w0 (w.setCells g o vs) := by
 intro vs
 induction vs with
 | nil => intro o w0 w h; exact h
 | cons v vs ih => intro o w0 w h; exact ih (o + 1) w0 _ (Below.setCell h hg v)
theorem zero_pts (n : Nat) : (Builtin.zeroCells (Value.agg #[.int .i64 0, .int .i64 0]).cells n).toList = (List.replicate (n * 2) (0 : Int)).map (Value.int .i64) := by
 apply List.ext_getElem
 ·simp [Builtin.zeroCells, Value.cells]
 ·intro i h1 h2
  have : i % 2 = 0 ∨ i % 2 = 1 := by omega
  rcases this with e | e <;> simp [Builtin.zeroCells, Value.cells, e]
theorem zero26 : ∀ w, (zeroValue 30).run Try.prog w = .ok (.agg #[.int .i64 0, .int .i64 0]) w := Try.zeroValue30
theorem run_clear_pts (w : World) (ty : TypeId) (b o n c : Nat) (hn : 0 < n) (hc : ∀ j, j < n * 2 → (w.cell? ⟨b, o + j, none⟩).isSome = true) (hf : ∀ j, j < n * 2 → w.frozen? ⟨b, o + j, none⟩ = false) :
  (Builtin.clear_ #[23] ty #[.slice (some ⟨b, o, none⟩) n c]).run Try.prog w = .ok (.tuple #[]) (w.setCells b o ((List.replicate (n * 2) (0 : Int)).map (Value.int .i64))) := by
 have hst := run_storeCells_cells (P := Try.prog) b o ((List.replicate (n * 2) (0 : Int)).map (Value.int .i64)) 0 w (by simpa using hc) (by simpa using hf) (by intro v hv'; obtain ⟨x, _, rfl⟩ := List.mem_map.1 hv'; rfl)
 simp only [Nat.add_zero] at hst
 have hzc := zero_pts n
 obtain ⟨m, rfl⟩ : ∃ m, n = m + 1 := ⟨n - 1, by omega⟩
 simp only [Value.cells] at hzc
 rw [List.map_replicate] at hst hzc ⊢
 simp [Builtin.clear_, run_underlying Try.underlying23, zero26, Value.cells, hzc, hst]
theorem pts_cells {w : World} {g : Nat} {E : List Pt} (h : IntsAt w g 0 (flat2 E)) {m : Nat} {x y : Int} (hm : E[m]? = some (x, y)) : w.cell? ⟨g, m * 2, none⟩ = some (.int .i64 x) ∧ w.cell? ⟨g, m * 2 + 1, none⟩ = some (.int .i64 y) := by
 have h0 := h _ _ (flat2_at hm).1
 have h1 := h _ _ (flat2_at hm).2
 rw [Nat.zero_add] at h0 h1
 exact ⟨h0, h1⟩
theorem flat2_set (E : List Pt) (m : Nat) (x y : Int) (hm : m < E.length) : ((flat2 E).set (m * 2) x).set (m * 2 + 1) y = flat2 (E.set m (x, y)) := by
 induction E generalizing m with
 | nil => simp at hm
 | cons a E ih =>
  cases m with
  | zero => rfl
  | succ m =>
   have := ih m (by simpa using hm)
   rw [show (m + 1) * 2 = m * 2 + 1 + 1 by omega]
   show a.1 :: a.2 :: (((flat2 E).set (m * 2) x).set (m * 2 + 1) y) = _
   rw [this]
   rfl
theorem Row.blk2 {w : World} {B t k g n cap : Nat} {L : List Int} (h : Row w B t k (.slice (some ⟨g, 0, none⟩) n cap) n L) : ∃ cur, w.heap[g]? = some (.cells cur t) ∧ n * k ≤ cur.size := by
 rcases h.2 with ⟨h1, h2⟩ | ⟨g', cap', cur, hv, hB, hh, hn, hm, hs, ht⟩
 ·cases h1
 ·cases hv
  exact ⟨cur, hh, by rw [hs]; exact Nat.mul_le_mul_right k hn⟩
set_option maxHeartbeats 4000000 in
set_option maxRecDepth 100000 in
theorem compact_any (B g cap : Nat) (D : List Pt) (w : World) (hB : B ≤ w.heap.size) (hgB : B ≤ g) (hn : D.length ≤ 4096) (hrow : Row w B 30 2 (.slice (some ⟨g, 0, none⟩) D.length cap) D.length (flat2 D)) :
  Calls Try.prog 37 #[.slice (some ⟨g, 0, none⟩) D.length cap] w fun e w' => e = .returned (.slice (some ⟨g, 0, none⟩) (compU D).length cap) ∧ Row w' B 30 2 (.slice (some ⟨g, 0, none⟩) (compU D).length cap) (compU D).length (flat2 (compU D)) ∧ Below B w w' := by
 have HR := hide hrow
 obtain ⟨_, _, hvg, _, hg2, hc1, hc2⟩ := hrow.sm (by simp)
 cases hvg
 clear hrow
 by_cases hn2 : D.length < 2
 ·have d2 : decide ((D.length : Int) < 2) = true := decide_eq_true (by omega)
  have e : compU D = D := by
   cases D with
   | nil => rfl
   | cons a D =>
    cases D with
    | nil => rfl
    | cons b D => simp at hn2; omega
  rw [e]
  go_enter Try.func37, Try.ntmps37
  go_wp2_with fail
  go_ret
  exact ⟨rfl, zu HR, Below.refl _ _⟩
 ·have d2 : decide ((D.length : Int) < 2) = false := decide_eq_false (by omega)
  go_enter Try.func37, Try.ntmps37
  go_wp2_with fail
  go_loopw [3] (fun s W => ∃ k : Nat, s = .int .i64 (k : Int) ∧ 1 ≤ k ∧ k ≤ D.length ∧ (∀ j a b, j + 1 < k → D[j]? = some a → D[j + 1]? = some b → a ≠ b) ∧ Row W B 30 2 (.slice (some ⟨g, 0, none⟩) D.length cap) D.length (flat2 D) ∧ Below w.heap.size w W) (fun s _ => D.length - (intOf s).toNat)
  case atStart => exact ⟨1, rfl, by omega, by omega, (fun j a b hj => by omega), zu HR, Below.refl _ _⟩
  case round =>
   obtain ⟨k, rfl, hk1, hk2, hno, hrow, hw⟩ := hrel
   have HNO := hide hno
   have HRW := hide hrow
   have HW := hide hw
   have HI := hide hrow.ints
   have hszw := hw.size
   clear hno hrow hw
   by_cases h : k < D.length
   ·have kz : decide ((k : Int) < (D.length : Int)) = true := decide_eq_true (by omega)
    have i1 : (k : Int) < (D.length : Int) := by omega
    have i0 : (0 : Int) ≤ (k : Int) := by omega
    obtain ⟨K, hK⟩ : ∃ K : Nat, k = K + 1 := ⟨k - 1, by omega⟩
    obtain ⟨a1, a2, ha⟩ : ∃ a1 a2 : Int, D[K]? = some (a1, a2) := ⟨_, _, List.getElem?_eq_getElem (show K < D.length by omega)⟩
    obtain ⟨b1, b2, hb⟩ : ∃ b1 b2 : Int, D[k]? = some (b1, b2) := ⟨_, _, List.getElem?_eq_getElem h⟩
    obtain ⟨qa0, qa1⟩ := pts_cells (zu HI) ha
    obtain ⟨qb0, qb1⟩ := pts_cells (zu HI) hb
    have wk : IntKind.i64.wrap ((k : Int) - 1) = (K : Int) := by rw [show (k : Int) - 1 = (K : Int) by omega]; exact wrap_i (by omega) (by omega)
    have wp : IntKind.i64.wrap ((k : Int) + 1) = (k : Int) + 1 := wrap_i (by omega) (by omega)
    have j1 : (K : Int) < (D.length : Int) := by omega
    have j0 : (0 : Int) ≤ (K : Int) := by omega
    have HA := hide ha
    have HB := hide hb
    have EK := hide hK
    have lg := cell_lt qa0
    clear ha hb hK
    have NEXT : (b1, b2) ≠ (a1, a2) → ∀ j a b, j + 1 < k + 1 → D[j]? = some a → D[j + 1]? = some b → a ≠ b := by
     intro hne j a b hj h1 h2
     by_cases hjk : j + 1 < k
     ·exact zu HNO j a b hjk h1 h2
     ·have ej : j = K := by have := zu EK; omega
      subst ej
      rw [zu HA] at h1
      have e2 := zu HB
      rw [zu EK] at e2
      rw [e2] at h2
      intro e
      exact hne (by rw [Option.some.inj h2, ← e, ← Option.some.inj h1])
    have HNEXT := hide NEXT
    clear NEXT
    by_cases e1 : b1 = a1
    ·by_cases e2 : b2 = a2
     ·subst e1 e2
      go_wp2_with fail
      go_quiet (fail)
      go_wp2_with fail
      have HDN0 : Hid (Below wr.heap.size wr (wr.drewN nq)) := hide ⟨rfl, rfl, rfl, Nat.le_refl _, fun _ _ => rfl⟩
      have HRV := hide ((zu HRW).below (zu HDN0))
      have HBV : Hid (Below B w (wr.drewN nq)) := hide ((bc (zu HW) (zu HDN0)).mono hB)
      have HC0 : Hid (compU (D.take (k + 1)) = D.take k) := hide (by
       have hb' := zu HB
       have e := zu EK
       rw [e] at hb'
       have h1 := compU_step (zu HA) hb'
       rw [if_pos rfl] at h1
       rw [e, show K + 1 + 1 = K + 2 by rfl, h1, ← e]
       exact compU_none k (by omega) (zu HNO))
      clear qa0 qa1 qb0 qb1 lg wk HI HRW HW
      obtain ⟨N2, hN2⟩ : ∃ N2 : Nat, N2 = D.length - k := ⟨_, rfl⟩
      obtain ⟨C2, hC2⟩ : ∃ C2 : Nat, C2 = cap - k := ⟨_, rfl⟩
      rw [← hN2, ← hC2]
      have hck : ¬ cap = k := by omega
      have EN2 := hide hN2
      have EC2 := hide hC2
      clear hN2 hC2
      generalize wr.drewN nq = V at *
      go_loopw [3, 5] (fun s t W => ∃ (kk j : Nat) (E : List Pt), s = .int .i64 (kk : Int) ∧ t = .int .i64 (j : Int) ∧ 1 ≤ j ∧ k + j ≤ D.length ∧ E.length = D.length ∧ kk + 1 ≤ k + j ∧ E.take kk = compU (D.take (k + j)) ∧ (∀ m, k + j ≤ m + 1 → E[m]? = D[m]?) ∧ Row W B 30 2 (.slice (some ⟨g, 0, none⟩) D.length cap) D.length (flat2 E) ∧ Below B w W) (fun _ t _ => D.length - (intOf t).toNat)
      case atStart => exact ⟨k, 1, D, rfl, rfl, Nat.le_refl _, by omega, rfl, Nat.le_refl _, (zu HC0).symm, (fun m _ => rfl), zu HRV, zu HBV⟩
      case round =>
       obtain ⟨kk, j, E, rfl, rfl, hj1, hjn, hEl, hkk, hEt, hEq, hrow3, hb3⟩ := hrel
       have HEq := hide hEq
       have HR3 := hide hrow3
       have HB3 := hide hb3
       have HI3 := hide hrow3.ints
       have hsz3 := hb3.size
       have hN2 := zu EN2
       clear hEq hrow3 hb3
       have k0 : (0 : Int) ≤ (kk : Int) := by omega
       have kn : (kk : Int) < (D.length : Int) := by omega
       have wkk : IntKind.i64.wrap ((kk : Int) + 1) = (kk : Int) + 1 := wrap_i (by omega) (by omega)
       have wj : IntKind.i64.wrap ((j : Int) + 1) = (j : Int) + 1 := wrap_i (by omega) (by omega)
       by_cases hjN : j < N2
       ·have jz : decide ((j : Int) < (N2 : Int)) = true := decide_eq_true (by omega)
        have jl : (j : Int) < (N2 : Int) := by omega
        have jg : (0 : Int) ≤ (j : Int) := by omega
        obtain ⟨J, hJ⟩ : ∃ J : Nat, j = J + 1 := ⟨j - 1, by omega⟩
        have wJ : IntKind.i64.wrap ((j : Int) - 1) = (J : Int) := by rw [show (j : Int) - 1 = (J : Int) by omega]; exact wrap_i (by omega) (by omega)
        have Jl : (J : Int) < (N2 : Int) := by omega
        have Jg : (0 : Int) ≤ (J : Int) := by omega
        obtain ⟨a1', a2', ha⟩ : ∃ a1' a2' : Int, D[k + J]? = some (a1', a2') := ⟨_, _, List.getElem?_eq_getElem (show k + J < D.length by omega)⟩
        obtain ⟨b1', b2', hb⟩ : ∃ b1' b2' : Int, D[k + J + 1]? = some (b1', b2') := ⟨_, _, List.getElem?_eq_getElem (show k + J + 1 < D.length by omega)⟩
        obtain ⟨c1', c2', hc⟩ : ∃ c1' c2' : Int, E[kk]? = some (c1', c2') := ⟨_, _, List.getElem?_eq_getElem (show kk < E.length by omega)⟩
        obtain ⟨qa0, qa1⟩ := pts_cells (zu HI3) ((zu HEq (k + J) (by omega)).trans ha)
        obtain ⟨qb0, qb1⟩ := pts_cells (zu HI3) ((zu HEq (k + J + 1) (by omega)).trans hb)
        obtain ⟨qk0, qk1⟩ := pts_cells (zu HI3) hc
        rw [show (k + J) * 2 = k * 2 + J * 2 by omega] at qa0 qa1
        rw [show (k + J + 1) * 2 = k * 2 + j * 2 by omega] at qb0 qb1
        have HST : Hid (compU (D.take (k + j + 1)) = if (a1', a2') = (b1', b2') then compU (D.take (k + j)) else compU (D.take (k + j)) ++ [(b1', b2')]) := hide (by have := compU_step ha hb; rw [show k + j + 1 = k + J + 2 by omega, show k + j = k + J + 1 by omega]; exact this)
        have EJ := hide hJ
        have lq := cell_lt qa0
        clear ha hb hc hJ HI3 hN2
        by_cases e1 : b1' = a1'
        ·by_cases e2 : b2' = a2'
         ·subst e1 e2
          go_wp2_with fail
          go_quiet (fail)
          go_wp2_with fail
          go_roundw
          case rel =>
           have HDN : Below wr.heap.size wr (wr.drewN nq) := ⟨rfl, rfl, rfl, Nat.le_refl _, fun _ _ => rfl⟩
           have H : ∃ (kk' j' : Nat) (E' : List Pt), Value.int .i64 ((kk : Int)) = .int .i64 (kk' : Int) ∧ Value.int .i64 ((j : Int) + 1) = .int .i64 (j' : Int) ∧ 1 ≤ j' ∧ k + j' ≤ D.length ∧ E'.length = D.length ∧ kk' + 1 ≤ k + j' ∧ E'.take kk' = compU (D.take (k + j')) ∧ (∀ m, k + j' ≤ m + 1 → E'[m]? = D[m]?) ∧ Row (wr.drewN nq) B 30 2 (.slice (some ⟨g, 0, none⟩) D.length cap) D.length (flat2 E') ∧ Below B w (wr.drewN nq) :=
             ⟨kk, j + 1, E, rfl, by simp, by omega, by have := zu EN2; omega, hEl, by omega, by rw [hEt, show k + (j + 1) = k + j + 1 by omega]; have := zu HST; simp at this; exact this.symm, fun m hm => zu HEq m (by omega), (zu HR3).below HDN, (zu HB3).trans (HDN.mono (by omega))⟩
           first | exact H | ((repeat apply Exists.intro); refine ⟨?_, rfl⟩; exact H)
          case measure => simp only [intOf]; omega
         ·subst e1
          have f1 : (b1' != b1') = false := by simp
          have f2 : (b2' != a2') = true := by simp [e2]
          have HNE : ¬ (b1', a2') = (b1', b2') := fun e => e2 (congrArg Prod.snd e).symm
          go_wp2_with fail
          go_quiet (fail)
          have HDN : Hid (Below wr.heap.size wr (wr.drewN nq)) := hide ⟨rfl, rfl, rfl, Nat.le_refl _, fun _ _ => rfl⟩
          have HRD := hide ((zu HR3).below (zu HDN))
          have s0 := keep1 (zu HDN) qb0
          have s1 := keep1 (zu HDN) qb1
          have t0 := keep1 (zu HDN) qk0
          have t1 := keep1 (zu HDN) qk1
          have ls := cell_lt s0
          obtain ⟨cur, hblk, _⟩ := (zu HR3).blk2
          have fz0 : (wr.drewN nq).frozen? ⟨g, kk * 2, none⟩ = false := by simp [World.frozen?, hblk]
          have fz1 : (wr.drewN nq).frozen? ⟨g, kk * 2 + 1, none⟩ = false := by simp [World.frozen?, hblk]
          have HBD : Hid (Below B w (wr.drewN nq)) := hide ((zu HB3).trans ((zu HDN).mono (by omega)))
          clear hblk qa0 qa1 qb0 qb1 qk0 qk1
          generalize wr.drewN nq = V2 at *
          have HRN : Hid (Row ((V2.setCell ⟨g, kk * 2, none⟩ (.int .i64 b1')).setCell ⟨g, kk * 2 + 1, none⟩ (.int .i64 b2')) B 30 2 (.slice (some ⟨g, 0, none⟩) D.length cap) D.length (flat2 (E.set kk (b1', b2')))) := hide (by rw [← flat2_set E kk b1' b2' (by omega)]; exact ((zu HRD).set (kk * 2) (by omega) _).set (kk * 2 + 1) (by omega) _)
          have HBN : Hid (Below B w ((V2.setCell ⟨g, kk * 2, none⟩ (.int .i64 b1')).setCell ⟨g, kk * 2 + 1, none⟩ (.int .i64 b2'))) := hide (Below.setCell (Below.setCell (zu HBD) hgB _) hgB _)
          go_wp2_with fail
          go_roundw
          case rel =>
           have H : ∃ (kk' j' : Nat) (E' : List Pt), Value.int .i64 ((kk : Int) + 1) = .int .i64 (kk' : Int) ∧ Value.int .i64 ((j : Int) + 1) = .int .i64 (j' : Int) ∧ 1 ≤ j' ∧ k + j' ≤ D.length ∧ E'.length = D.length ∧ kk' + 1 ≤ k + j' ∧ E'.take kk' = compU (D.take (k + j')) ∧ (∀ m, k + j' ≤ m + 1 → E'[m]? = D[m]?) ∧ Row ((V2.setCell ⟨g, kk * 2, none⟩ (.int .i64 b1')).setCell ⟨g, kk * 2 + 1, none⟩ (.int .i64 b2')) B 30 2 (.slice (some ⟨g, 0, none⟩) D.length cap) D.length (flat2 E') ∧ Below B w ((V2.setCell ⟨g, kk * 2, none⟩ (.int .i64 b1')).setCell ⟨g, kk * 2 + 1, none⟩ (.int .i64 b2')) := by
            refine ⟨kk + 1, j + 1, E.set kk (b1', b2'), by simp, by simp, by omega, by have := zu EN2; omega, by rw [List.length_set]; exact hEl, by omega, ?_, fun m hm => ?_, zu HRN, zu HBN⟩
            ·have hst := zu HST
             rw [if_neg HNE] at hst
             rw [show k + (j + 1) = k + j + 1 by omega, hst, ← hEt, List.take_add_one, List.getElem?_set_self (by omega), List.take_set]
             rw [List.set_eq_of_length_le (by rw [List.length_take]; omega)]
             rfl
            ·rw [List.getElem?_set_ne (by omega)]
             exact zu HEq m (by omega)
           first | exact H | ((repeat apply Exists.intro); refine ⟨?_, rfl⟩; exact H)
          case measure => simp only [intOf]; omega
        ·have f1 : (b1' != a1') = true := by simp [e1]
         have HNE : ¬ (a1', a2') = (b1', b2') := fun e => e1 (congrArg Prod.fst e).symm
         go_wp2_with fail
         go_quiet (fail)
         have HDN : Hid (Below wr.heap.size wr (wr.drewN nq)) := hide ⟨rfl, rfl, rfl, Nat.le_refl _, fun _ _ => rfl⟩
         have HRD := hide ((zu HR3).below (zu HDN))
         have s0 := keep1 (zu HDN) qb0
         have s1 := keep1 (zu HDN) qb1
         have t0 := keep1 (zu HDN) qk0
         have t1 := keep1 (zu HDN) qk1
         have ls := cell_lt s0
         obtain ⟨cur, hblk, _⟩ := (zu HR3).blk2
         have fz0 : (wr.drewN nq).frozen? ⟨g, kk * 2, none⟩ = false := by simp [World.frozen?, hblk]
         have fz1 : (wr.drewN nq).frozen? ⟨g, kk * 2 + 1, none⟩ = false := by simp [World.frozen?, hblk]
         have HBD : Hid (Below B w (wr.drewN nq)) := hide ((zu HB3).trans ((zu HDN).mono (by omega)))
         clear hblk qa0 qa1 qb0 qb1 qk0 qk1
         generalize wr.drewN nq = V2 at *
         have HRN : Hid (Row ((V2.setCell ⟨g, kk * 2, none⟩ (.int .i64 b1')).setCell ⟨g, kk * 2 + 1, none⟩ (.int .i64 b2')) B 30 2 (.slice (some ⟨g, 0, none⟩) D.length cap) D.length (flat2 (E.set kk (b1', b2')))) := hide (by rw [← flat2_set E kk b1' b2' (by omega)]; exact ((zu HRD).set (kk * 2) (by omega) _).set (kk * 2 + 1) (by omega) _)
         have HBN : Hid (Below B w ((V2.setCell ⟨g, kk * 2, none⟩ (.int .i64 b1')).setCell ⟨g, kk * 2 + 1, none⟩ (.int .i64 b2'))) := hide (Below.setCell (Below.setCell (zu HBD) hgB _) hgB _)
         go_wp2_with fail
         go_roundw
         case rel =>
          have H : ∃ (kk' j' : Nat) (E' : List Pt), Value.int .i64 ((kk : Int) + 1) = .int .i64 (kk' : Int) ∧ Value.int .i64 ((j : Int) + 1) = .int .i64 (j' : Int) ∧ 1 ≤ j' ∧ k + j' ≤ D.length ∧ E'.length = D.length ∧ kk' + 1 ≤ k + j' ∧ E'.take kk' = compU (D.take (k + j')) ∧ (∀ m, k + j' ≤ m + 1 → E'[m]? = D[m]?) ∧ Row ((V2.setCell ⟨g, kk * 2, none⟩ (.int .i64 b1')).setCell ⟨g, kk * 2 + 1, none⟩ (.int .i64 b2')) B 30 2 (.slice (some ⟨g, 0, none⟩) D.length cap) D.length (flat2 E') ∧ Below B w ((V2.setCell ⟨g, kk * 2, none⟩ (.int .i64 b1')).setCell ⟨g, kk * 2 + 1, none⟩ (.int .i64 b2')) := by
           refine ⟨kk + 1, j + 1, E.set kk (b1', b2'), by simp, by simp, by omega, by have := zu EN2; omega, by rw [List.length_set]; exact hEl, by omega, ?_, fun m hm => ?_, zu HRN, zu HBN⟩
           ·have hst := zu HST
            rw [if_neg HNE] at hst
            rw [show k + (j + 1) = k + j + 1 by omega, hst, ← hEt, List.take_add_one, List.getElem?_set_self (by omega), List.take_set]
            rw [List.set_eq_of_length_le (by rw [List.length_take]; omega)]
            rfl
           ·rw [List.getElem?_set_ne (by omega)]
            exact zu HEq m (by omega)
          first | exact H | ((repeat apply Exists.intro); refine ⟨?_, rfl⟩; exact H)
         case measure => simp only [intOf]; omega
       ·have jz : decide ((j : Int) < (N2 : Int)) = false := decide_eq_false (by omega)
        have jl : ¬ (j : Int) < (N2 : Int) := by omega
        have hcD : compU D = E.take kk := by rw [hEt, show k + j = D.length by omega, List.take_length]
        have hcl : ∀ ty, (Builtin.clear_ #[23] ty #[.slice (some ⟨g, kk * 2, none⟩) (D.length - kk) (cap - kk)]).run Try.prog wr = .ok (.tuple #[]) (wr.setCells g (kk * 2) ((List.replicate ((D.length - kk) * 2) (0 : Int)).map (Value.int .i64))) := by
         obtain ⟨cur, hblk, hcur⟩ := (zu HR3).blk2
         refine fun ty => run_clear_pts wr ty g (kk * 2) (D.length - kk) (cap - kk) (by omega) (fun j hj => ?_) (fun j hj => by simp [World.frozen?, hblk])
         simp [World.cell?, hblk]
         omega
        obtain ⟨L', hL1, hL2⟩ := (zu HR3).sets (List.replicate ((D.length - kk) * 2) (0 : Int)) (kk * 2) wr (flat2 E) (by rw [List.length_replicate]; omega)
        have HBC := hide (Below.sets hgB ((List.replicate ((D.length - kk) * 2) (0 : Int)).map (Value.int .i64)) (kk * 2) w wr (zu HB3))
        have HPO := hide (hL1.pop (m := kk) (by omega))
        rw [hL2, flat2_take, ← hcD, List.map_replicate] at HPO
        rw [List.map_replicate] at HBC
        have hkl : (compU D).length = kk := by rw [hcD, List.length_take]; omega
        have hck2 : ¬ cap = kk := by omega
        have kc : (kk : Int) ≤ (cap : Int) := by omega
        have kn2 : (kk : Int) ≤ (D.length : Int) := by omega
        have nc : (D.length : Int) ≤ (cap : Int) := by omega
        have EKL := hide hkl
        clear hL1 hL2 hcD hkl hN2 hEt hEl
        go_wp2_with fail
        go_ret
        exact ⟨by rw [zu EKL]; rfl, by rw [zu EKL]; exact zu HPO, zu HBC⟩
     ·have f1 : (b1 == a1) = true := by simp [e1]
      have f2 : (b2 == a2) = false := by simp [e2]
      go_wp2_with fail
      go_quiet (fail)
      go_wp2_with fail
      go_roundw
      case rel =>
       have H : ∃ k' : Nat, Value.int .i64 ((k : Int) + 1) = .int .i64 (k' : Int) ∧ 1 ≤ k' ∧ k' ≤ D.length ∧ (∀ j a b, j + 1 < k' → D[j]? = some a → D[j + 1]? = some b → a ≠ b) ∧ Row (wr.drewN nq) B 30 2 (.slice (some ⟨g, 0, none⟩) D.length cap) D.length (flat2 D) ∧ Below w.heap.size w (wr.drewN nq) :=
         ⟨k + 1, by simp, by omega, by omega, zu HNEXT (fun e => e2 (congrArg Prod.snd e)), (zu HRW).below ⟨rfl, rfl, rfl, Nat.le_refl _, fun _ _ => rfl⟩, bc (zu HW) ⟨rfl, rfl, rfl, Nat.le_refl _, fun _ _ => rfl⟩⟩
       first | exact H | ((repeat apply Exists.intro); refine ⟨?_, rfl⟩; exact H)
      case measure => simp only [intOf]; omega
    ·have f1 : (b1 == a1) = false := by simp [e1]
     go_wp2_with fail
     go_quiet (fail)
     go_wp2_with fail
     go_roundw
     case rel =>
      have H : ∃ k' : Nat, Value.int .i64 ((k : Int) + 1) = .int .i64 (k' : Int) ∧ 1 ≤ k' ∧ k' ≤ D.length ∧ (∀ j a b, j + 1 < k' → D[j]? = some a → D[j + 1]? = some b → a ≠ b) ∧ Row (wr.drewN nq) B 30 2 (.slice (some ⟨g, 0, none⟩) D.length cap) D.length (flat2 D) ∧ Below w.heap.size w (wr.drewN nq) :=
        ⟨k + 1, by simp, by omega, by omega, zu HNEXT (fun e => e1 (congrArg Prod.fst e)), (zu HRW).below ⟨rfl, rfl, rfl, Nat.le_refl _, fun _ _ => rfl⟩, bc (zu HW) ⟨rfl, rfl, rfl, Nat.le_refl _, fun _ _ => rfl⟩⟩
      first | exact H | ((repeat apply Exists.intro); refine ⟨?_, rfl⟩; exact H)
     case measure => simp only [intOf]; omega
   ·have kz : decide ((k : Int) < (D.length : Int)) = false := decide_eq_false (by omega)
    have e : compU D = D := by
     have := compU_none (D := D) D.length (Nat.le_refl _) (fun j a b hj => zu HNO j a b (by omega))
     rwa [List.take_length] at this
    go_wp2_with fail
    go_ret
    rw [e]
    exact ⟨rfl, zu HRW, (zu HW).mono hB⟩
open Go.Shelf
def Try.l35_ren : Go.Shelf.Ren := ⟨fun | 6 => 35 | 15 => 62 | 14 => 61 | 28 => 85 | 29 => 86 | 20 => 77 | 21 => 78 | 22 => 79 | 23 => 80 | 24 => 81 | 25 => 82 | 26 => 83 | 27 => 84 | 46 => 92 | 47 => 93 | 48 => 94 | 49 => 95 | 50 => 96 | 57 => 99 | n => n, fun | 22 => 23 | 24 => 30 | 25 => 63 | 3 => 3 | 39 => 93 | 0 => 0 | 53 => 113 | 55 => 115 | 4 => 4 | 46 => 106 | 45 => 105 | 50 => 110 | 5 => 5 | 9 => 9 | 66 => 119 | 70 => 123 | 76 => 127 | 77 => 128 | n => n, fun | n => n⟩
theorem Try.l35 : Go.Proofs.SlLaysF0.n6 Try.prog Try.l35_ren := {
 mixed := by kernel_rfl
 f6 := ⟨Try.f35.name, by decide, Try.func35.trans (congrArg some (by kernel_rfl))⟩
 f14 := ⟨Try.f61.name, by decide, Try.func61.trans (congrArg some (by kernel_rfl))⟩
 f15 := Try.func62.trans (congrArg some (by kernel_rfl))
 f20 := ⟨Try.f77.name, by decide, Try.func77.trans (congrArg some (by kernel_rfl))⟩
 f21 := ⟨Try.f78.name, by decide, Try.func78.trans (congrArg some (by kernel_rfl))⟩
 f22 := ⟨Try.f79.name, by decide, Try.func79.trans (congrArg some (by kernel_rfl))⟩
 f23 := ⟨Try.f80.name, by decide, Try.func80.trans (congrArg some (by kernel_rfl))⟩
 f24 := ⟨Try.f81.name, by decide, Try.func81.trans (congrArg some (by kernel_rfl))⟩
 f25 := ⟨Try.f82.name, by decide, Try.func82.trans (congrArg some (by kernel_rfl))⟩
 f26 := ⟨Try.f83.name, by decide, Try.func83.trans (congrArg some (by kernel_rfl))⟩
 f27 := ⟨Try.f84.name, by decide, Try.func84.trans (congrArg some (by kernel_rfl))⟩
 f28 := Try.func85.trans (congrArg some (by kernel_rfl))
 f29 := Try.func86.trans (congrArg some (by kernel_rfl))
 f46 := ⟨Try.f92.name, by decide, Try.func92.trans (congrArg some (by kernel_rfl))⟩
 f47 := Try.func93.trans (congrArg some (by kernel_rfl))
 f48 := Try.func94.trans (congrArg some (by kernel_rfl))
 f49 := ⟨Try.f95.name, by decide, Try.func95.trans (congrArg some (by kernel_rfl))⟩
 f50 := ⟨Try.f96.name, by decide, Try.func96.trans (congrArg some (by kernel_rfl))⟩
 f57 := ⟨Try.f99.name, by decide, Try.func99.trans (congrArg some (by kernel_rfl))⟩
 t0 := Try.underlying0
 a0 := Try.isAgg0
 z0 := Try.sizeOf0
 v0 := Try.zeroValue0
 t3 := Try.underlying3
 a3 := Try.isAgg3
 z3 := Try.sizeOf3
 v3 := Try.zeroValue3
 t4 := Try.underlying4
 a4 := Try.isAgg4
 z4 := Try.sizeOf4
 v4 := Try.zeroValue4
 t5 := Try.underlying5
 a5 := Try.isAgg5
 z5 := Try.sizeOf5
 v5 := Try.zeroValue5
 t9 := Try.underlying9
 a9 := Try.isAgg9
 z9 := Try.sizeOf9
 v9 := Try.zeroValue9
 t22 := Try.underlying23
 a22 := Try.isAgg23
 z22 := Try.sizeOf23
 v22 := Try.zeroValue23
 t25 := Try.underlying63
 a25 := Try.isAgg63
 z25 := Try.sizeOf63
 v25 := Try.zeroValue63
 t39 := Try.underlying93
 a39 := Try.isAgg93
 z39 := Try.sizeOf93
 v39 := Try.zeroValue93
 t45 := Try.underlying105
 a45 := Try.isAgg105
 z45 := Try.sizeOf105
 v45 := Try.zeroValue105
 t46 := Try.underlying106
 a46 := Try.isAgg106
 z46 := Try.sizeOf106
 v46 := Try.zeroValue106
 t50 := Try.underlying110
 a50 := Try.isAgg110
 z50 := Try.sizeOf110
 v50 := Try.zeroValue110
 t53 := Try.underlying113
 a53 := Try.isAgg113
 z53 := Try.sizeOf113
 v53 := Try.zeroValue113
 t55 := Try.underlying115
 a55 := Try.isAgg115
 z55 := Try.sizeOf115
 v55 := Try.zeroValue115
 t66 := Try.underlying119
 a66 := Try.isAgg119
 z66 := Try.sizeOf119
 v66 := Try.zeroValue119
 t70 := Try.underlying123
 a70 := Try.isAgg123
 z70 := Try.sizeOf123
 v70 := Try.zeroValue123
 t76 := Try.underlying127
 a76 := Try.isAgg127
 z76 := Try.sizeOf127
 v76 := Try.zeroValue127
 t77 := Try.underlying128
 a77 := Try.isAgg128
 z77 := Try.sizeOf128
 v77 := Try.zeroValue128 }
open Go.Sort (flatK HoldsK SWO PermIn SortedIn grow grow_grow alloc_eq_grow putRowK)
theorem Row.put {w : World} {B t k g n cap : Nat} {L : List Int} (h : Row w B t k (.slice (some ⟨g, 0, none⟩) n cap) n L) (M : List Int) (hM : M.length = n * k) : Row (Sort.putRow id w g 0 (M.map (Value.int .i64)).toArray) B t k (.slice (some ⟨g, 0, none⟩) n cap) n M := by
 rcases h.2 with ⟨h1, _⟩ | ⟨g', cap', cur, hv, hB, hh, hn, hm, hs, ht⟩
 ·cases h1
 ·cases hv
  have hnk : n * k ≤ cur.size := by rw [hs]; exact Nat.mul_le_mul_right k hn
  refine ⟨by simpa using hM, .inr ⟨g, cap, Sort.putCells id 0 (M.map (Value.int .i64)).toArray cur, rfl, hB, ?_, hn, hm, by simp [Sort.putCells, hs], ?_⟩⟩
  ·show (w.heap.modify g _)[g]? = _
   rw [Array.getElem?_modify, if_pos rfl, hh]
   rfl
  ·apply List.ext_getElem?
   intro j
   rw [List.getElem?_take]
   by_cases hj : j < n * k
   ·rw [if_pos hj, Array.getElem?_toList]
    have hc : cur[j]? = some cur[j] := Array.getElem?_eq_getElem (by omega)
    simp only [Sort.putCells, Array.getElem?_mapIdx, hc, Option.map_some, id]
    rw [if_pos ⟨Nat.zero_le _, by simp [hM]; omega⟩]
    rw [List.getElem?_map, List.getElem?_eq_getElem (by omega)]
    simp [hM, hj]
   ·rw [if_neg hj, List.getElem?_eq_none (by simp [hM]; omega)]
theorem flatK_pts (L : List Pt) : flatK encPt 2 L.toArray = ((flat2 L).map (Value.int .i64)).toArray := by
 apply Array.ext
 ·simp [flat2_len]
 ·intro t h1 h2
  have ht : t < L.length * 2 := by simpa using h1
  have hi : t / 2 < L.length := by omega
  obtain ⟨p, hp⟩ : ∃ p, L[t / 2]? = some p := ⟨_, List.getElem?_eq_getElem hi⟩
  obtain ⟨f0, f1⟩ := flat2_at hp
  have ep : L.toArray[t / 2]! = p := by
   rw [getElem!_pos L.toArray (t / 2) (by simpa using hi)]
   rw [List.getElem?_eq_getElem hi] at hp
   simpa using hp
  simp only [flatK, Array.getElem_map, Array.getElem_range, List.getElem_toArray, List.getElem_map]
  rw [ep]
  rcases Nat.mod_two_eq_zero_or_one t with e | e
  ·have et : t / 2 * 2 = t := by omega
   rw [et, List.getElem?_eq_getElem (by rw [flat2_len]; exact ht)] at f0
   rw [Option.some.inj f0, e]
   rfl
  ·have et : t / 2 * 2 + 1 = t := by omega
   rw [et, List.getElem?_eq_getElem (by rw [flat2_len]; exact ht)] at f1
   rw [Option.some.inj f1, e]
   rfl
theorem Row.holds {w : World} {B g cap : Nat} {L : List Pt} (h : Row w B 30 2 (.slice (some ⟨g, 0, none⟩) L.length cap) L.length (flat2 L)) : HoldsK encPt 2 w g 0 L.toArray := by
 unfold HoldsK
 rw [flatK_pts]
 intro j hj
 have hj2 : j < (flat2 L).length := by simpa using hj
 obtain ⟨cur, hblk, _⟩ := h.blk2
 refine ⟨?_, by simp [World.frozen?, hblk]⟩
 rw [h.ints j _ (List.getElem?_eq_getElem hj2)]
 have e : ((flat2 L).map (Value.int .i64)).toArray[j]! = .int .i64 (flat2 L)[j] := by
  rw [getElem!_pos (((flat2 L).map (Value.int .i64)).toArray) j hj]
  simp
 rw [e]
 rfl
theorem cmpP_lt (x y : Pt) : ltOf cmpP x y = ltp x y := by
 unfold ltOf
 exact cmpP_neg x y
theorem cmpP_swo : SWO (ltOf cmpP) where
 irrefl x := by rw [cmpP_lt]; exact ltp_irrefl x
 trans x y z h1 h2 := by rw [cmpP_lt] at *; exact ltp_trans x y z h1 h2
 ntrans x y z h1 h2 := by rw [cmpP_lt] at *; exact ltp_ntrans x y z h1 h2
theorem cmp_lays (blk off size : Nat) (w : World) : CmpLays Try.prog 36 #[] encPt 2 cmpP blk off size w := by
 intro m os dk hs x y
 refine (cmp_ints x.1 x.2 y.1 y.2 _).mono ?_
 rintro e w' ⟨rfl, q, rfl⟩
 refine ⟨rfl, q, #[.cells #[.int .i64 x.1, .int .i64 x.2] 30] ++ #[.cells #[.int .i64 y.1, .int .i64 y.2] 30] ++ #[.cells #[.int .i64 (cmpI x.1 y.1), .int .i64 (cmpI x.2 y.2)] 3], ?_⟩
 rw [alloc_eq_grow, alloc_eq_grow, alloc_eq_grow, ← grow_grow, ← grow_grow]
 rfl
theorem enters54 : ∀ args w, (callFunc 36 args).run Try.prog w = .ok (.enter 36 args) w := enters_of Try.func36 (by kernel_rfl) rfl
theorem sortF_any (B g cap : Nat) (D : List Pt) (w : World) (hB : B ≤ w.heap.size) (hgB : B ≤ g) (hn : D.length ≤ 4096) (hrow : Row w B 30 2 (.slice (some ⟨g, 0, none⟩) D.length cap) D.length (flat2 D)) :
  Calls Try.prog 35 #[.slice (some ⟨g, 0, none⟩) D.length cap, .func (.func 36) #[] #[]] w fun e w' => e = .returned (.tuple #[]) ∧ ∃ M : List Pt, M.length = D.length ∧ (∀ q, q ∈ M ↔ q ∈ D) ∧ M.Pairwise (fun a b => ltp b a = false) ∧ Row w' B 30 2 (.slice (some ⟨g, 0, none⟩) D.length cap) D.length (flat2 M) ∧ Below B w w' := by
 obtain ⟨_, _, hvg, _, hg2, hc1, hc2⟩ := hrow.sm (by simp)
 cases hvg
 have hcon := AnyQ.slices_SortFunc Try.l35 2 Try.isAgg30 Try.sizeOf30 encPt (fun _ => rfl) (fun x v hv => by simp [encPt] at hv; rcases hv with rfl | rfl <;> rfl) cmpP cmpP_swo 36 #[] g 0 cap D.toArray w enters54 (cmp_lays g 0 _ w) hrow.holds hg2 (by simp; omega)
 change Calls Try.prog 35 _ _ _ at hcon
 rw [List.size_toArray] at hcon
 refine hcon.mono ?_
 rintro e w' ⟨rfl, d', n, os, hp, hs, rfl⟩
 have hsz : d'.size = D.length := by have := hp.1; simpa using this
 have hperm : d'.toList.Perm D := by
  have := hp.2.2
  rw [← hsz] at this
  simpa [Array.extract_eq_self_of_le, hsz] using this
 refine ⟨rfl, d'.toList, by simpa using hsz, fun q => hperm.mem_iff, ?_, ?_, ?_⟩
 ·rw [List.pairwise_iff_getElem]
  intro i j hi hj hij
  have := hs i j (Nat.zero_le _) hij (by simpa [hsz] using hj)
  rw [cmpP_lt] at this
  rw [getElem!_pos _ _ (by simpa using hj), getElem!_pos _ _ (by simpa using hi)] at this
  simpa using this
 ·have hf : flatK encPt 2 d' = ((flat2 d'.toList).map (Value.int .i64)).toArray := by have := flatK_pts d'.toList; simpa using this
  have h1 := (hrow.put (flat2 d'.toList) (by rw [flat2_len]; simp [hsz]))
  unfold sortWorldK putRowK
  rw [hf]
  refine (show Row (Sort.putRow id (Sort.ahead w n) g 0 ((flat2 d'.toList).map (Value.int .i64)).toArray) B 30 2 (.slice (some ⟨g, 0, none⟩) D.length cap) D.length (flat2 d'.toList) from h1).kept' (fun b hb => ?_)
  have hbl := (World.ownsRow.lt h1 b hb).2
  show (_ ++ os)[b]? = _
  rw [Array.getElem?_append_left (by exact hbl)]
 ·refine ⟨rfl, rfl, rfl, ?_, fun i hi => ?_⟩
  ·show w.heap.size ≤ (_ ++ os).size
   simp [putRowK, Sort.putRow, Sort.mapBlock, Sort.ahead]
  ·show (((Sort.putRow id (Sort.ahead w n) g 0 (flatK encPt 2 d')).heap) ++ os)[i]? = _
   have hsz2 : (Sort.putRow id (Sort.ahead w n) g 0 (flatK encPt 2 d')).heap.size = w.heap.size := by simp [Sort.putRow, Sort.mapBlock, Sort.ahead]
   rw [Array.getElem?_append_left (by rw [hsz2]; omega)]
   show (w.heap.modify g _)[i]? = _
   rw [Array.getElem?_modify, if_neg (by omega)]
open Go.Sort (flatK HoldsK putRowK)
theorem cloneP_any (g cap : Nat) (L : List Pt) (w : World) (hn : L.length ≤ 4096) (hI : IntsAt w g 0 (flat2 L)) :
  Calls Try.prog 34 #[.slice (some ⟨g, 0, none⟩) L.length cap] w fun e w' => ∃ g' c', e = .returned (.slice (some ⟨g', 0, none⟩) L.length c') ∧ Row w' w.heap.size 30 2 (.slice (some ⟨g', 0, none⟩) L.length c') L.length (flat2 L) ∧ Below w.heap.size w w' := by
 obtain ⟨i0, hi, hz0, hz1, hz2⟩ := info_parts info26
 have h := AnyE.slices_Clone Try.l34 i0 (.agg #[.int .i64 0, .int .i64 0]) 2 16 hi hz0 hz1 hz2 rfl (by omega) Try.sizeOf30 g 0 L.length cap ((flat2 L).map (Value.int .i64)) w (by simp [flat2_len]) (by unfold maxLen; omega) (by omega)
  (fun j u hj => by
   rw [List.getElem?_map] at hj
   obtain ⟨x, hx, rfl⟩ := Option.map_eq_some_iff.1 hj
   exact hI j x hx) ints_one
 refine Calls.mono h ?_
 rintro e w' ⟨v, rfl, hown, hv, hb⟩
 have hr : Row w' w.heap.size 30 2 v L.length (flat2 L) := hown
 obtain ⟨g', c', rfl, _⟩ := hr.sm hv
 exact ⟨g', c', rfl, hr, hb⟩
theorem revP_any (B g cap : Nat) (D : List Pt) (w : World) (hB : B ≤ w.heap.size) (hgB : B ≤ g) (hn : D.length ≤ 4096) (hrow : Row w B 30 2 (.slice (some ⟨g, 0, none⟩) D.length cap) D.length (flat2 D)) :
  Calls Try.prog 39 #[.slice (some ⟨g, 0, none⟩) D.length cap] w fun e w' => e = .returned (.tuple #[]) ∧ Row w' B 30 2 (.slice (some ⟨g, 0, none⟩) D.length cap) D.length (flat2 D.reverse) ∧ Below B w w' ∧ ∀ i, i ≠ g → w'.heap[i]? = w.heap[i]? := by
 have hcon := AnyQ.slices_Reverse Try.l39 2 Try.isAgg30 Try.sizeOf30 encPt (fun _ => rfl) (fun x v hv => by simp [encPt] at hv; rcases hv with rfl | rfl <;> rfl) g 0 cap D.toArray w hrow.holds (by simp; omega)
 change Calls Try.prog 39 _ _ _ at hcon
 rw [List.size_toArray] at hcon
 refine hcon.mono ?_
 rintro e w' ⟨rfl, n, rfl⟩
 have hf : flatK encPt 2 D.toArray.reverse = ((flat2 D.reverse).map (Value.int .i64)).toArray := by have := flatK_pts D.reverse; simpa using this
 have h1 := hrow.put (flat2 D.reverse) (by rw [flat2_len]; simp)
 have hne : ∀ i, i ≠ g → (putRowK encPt 2 (Sort.ahead w n) g 0 D.toArray.reverse).heap[i]? = w.heap[i]? := fun i hi => by
  show (w.heap.modify g _)[i]? = _
  rw [Array.getElem?_modify, if_neg (fun e => hi e.symm)]
 refine ⟨rfl, ?_, ⟨rfl, rfl, rfl, ?_, fun i hi => hne i (by omega)⟩, hne⟩
 ·unfold putRowK
  rw [hf]
  exact h1
 ·show w.heap.size ≤ (w.heap.modify g _).size
  simp
def hullC (L : List Pt) : Int := if 4096 < L.length then 2 else if 1 ≤ L.length ∧ L.length ≤ 200 ∧ L.all ptOk = true then 0 else 1
def hullL (L : List Pt) : List Pt := if 4096 < L.length then [] else if 1 ≤ L.length ∧ L.length ≤ 200 ∧ L.all ptOk = true then hullM (srtU L) else []
theorem hullM_le (U : List Pt) : (hullM U).length ≤ 2 * U.length := by
 unfold hullM
 split
 ·omega
 ·have h1 : (half U).length ≤ U.length := by have := halfR_le U; unfold half; rw [List.length_reverse]; exact this
  have h2 : (half U.reverse).length ≤ U.length := by have := halfR_le U.reverse; unfold half; rw [List.length_reverse]; rw [List.length_reverse] at this; exact this
  rw [List.length_append, List.length_dropLast, List.length_dropLast]
  omega
set_option maxHeartbeats 4000000 in
set_option maxRecDepth 100000 in
theorem hullP_good (b cap : Nat) (L : List Pt) (w : World) (h1 : 1 ≤ L.length) (h2 : L.length ≤ 200) (hok : L.all ptOk = true) (hb : b < w.heap.size) (hI : IntsAt w b 0 (flat2 L)) (HPR : Hid (Calls Try.prog 33 #[.slice (some ⟨b, 0, none⟩) L.length cap] w fun e w' => e = .returned (.bool true) ∧ Below w.heap.size w w')) :
  Calls Try.prog 9 #[.slice (some ⟨b, 0, none⟩) L.length cap] w fun e w' => ∃ v, e = .returned (.tuple #[v, .int .i64 0]) ∧ Row w' w.heap.size 30 2 v (hullM (srtU L)).length (flat2 (hullM (srtU L))) ∧ Below w.heap.size w w' := by
 obtain ⟨iP, hi1, hy0, hy1, hy2⟩ := info_parts info26
 have d0 : decide ((4096 : Int) < (L.length : Int)) = false := decide_eq_false (by omega)
 have d1 : decide ((1 : Int) ≤ (L.length : Int)) = true := decide_eq_true (by omega)
 have d2 : decide ((L.length : Int) ≤ 200) = true := decide_eq_true (by omega)
 have HI := hide hI
 have HOK : Hid (∀ p ∈ L, ptOk p = true) := hide (List.all_eq_true.1 hok)
 have HNE : Hid (L ≠ []) := hide (fun e => by rw [e] at h1; simp at h1)
 clear hI hok
 go_enter Try.func9, Try.ntmps9
 go_wp2_with fail
 refine (btw_any _ _ _ _).mono ?_
 rintro e w' ⟨rfl, hww⟩
 have hww' := hww.symm
 clear hww
 subst hww'
 rw [d1, d2]
 go_wp2_with fail
 refine (zu HPR).mono ?_
 rintro e W1 ⟨rfl, hb1⟩
 have HB1 := hide hb1
 have HI1 := hide ((zu HI).below hb1 hb)
 clear hb1 HPR
 go_wp2_with fail
 refine (cloneP_any b cap L W1 (by omega) (zu HI1)).mono ?_
 rintro e W2 ⟨g, c, rfl, hr2, hb2⟩
 obtain ⟨_, _, hvg, hg1, hg2, hc1, hc2⟩ := hr2.sm (by simp)
 cases hvg
 have HR2 := hide hr2
 have HB2 := hide hb2
 have hs2 := hb2.size
 clear hr2 hb2
 go_wp2_with fail
 refine (sortF_any W1.heap.size g c L W2 hs2 hg1 (by omega) (zu HR2)).mono ?_
 rintro e W3 ⟨rfl, M, hMl, hMm, hMs, hr3, hb3⟩
 have HCS := hide (comp_srt hMs hMm)
 have hs3 := hb3.size
 have HR3 : Hid (Row W3 W1.heap.size 30 2 (.slice (some ⟨g, 0, none⟩) M.length c) M.length (flat2 M)) := hide (by rw [hMl]; exact hr3)
 have HB3 : Hid (Below W1.heap.size W1 W3) := hide ((zu HB2).trans hb3)
 have EML := hide hMl
 clear hMm hMs hr3 hb3 HR2
 have HCO := hide (compact_any W1.heap.size g c M W3 (by omega) hg1 (by omega) (zu HR3))
 rw [zu EML, zu HCS] at HCO
 have hUl := srtU_len L
 have HUN := hide (srtU_ne (zu HNE))
 have HUO : Hid (∀ p ∈ srtU L, ptOk p = true) := hide (fun p hp => zu HOK p (((srtU_facts L).2 p).1 hp))
 have HEQ := hide (hull_eq (srtU L) (srtU_ne (zu HNE)))
 clear hMl
 generalize hU : srtU L = U at *
 have EU := hide hU
 clear hU
 go_wp2_with fail
 refine (zu HCO).mono ?_
 rintro e W4 ⟨rfl, hr4, hb4⟩
 obtain ⟨_, _, hvg, _, hg4, hc4, hc42⟩ := hr4.sm (by simp)
 cases hvg
 have HR4 := hide hr4
 have HB4 : Hid (Below W1.heap.size W1 W4) := hide ((zu HB3).trans hb4)
 have hs4 := hb4.size
 clear hr4 hb4 HCO HB3
 go_wp2_with fail
 refine (leftTurns_any g c U W4 (by omega) hg4 (zu HUO) (zu HR4).ints).mono ?_
 rintro e W5 ⟨v5, rfl, hr5, hb5⟩
 have HR5 := hide hr5
 have HR5g := hide ((zu HR4).below hb5)
 have HB5 : Hid (Below W1.heap.size W1 W5) := hide (bc (zu HB4) hb5)
 have hs5 := hb5.size
 clear hr5 hb5
 go_wp2_with fail
 refine (revP_any W1.heap.size g c U W5 (by omega) hg1 (by omega) (zu HR5g)).mono ?_
 rintro e W6 ⟨rfl, hr6, hb6, hne6⟩
 have HR6 : Hid (Row W6 W1.heap.size 30 2 (.slice (some ⟨g, 0, none⟩) U.reverse.length c) U.reverse.length (flat2 U.reverse)) := hide (by rw [List.length_reverse]; exact hr6)
 have HR5' : Hid (Row W6 W4.heap.size 30 2 v5 (half U).length (flat2 (half U))) := hide ((zu HR5).kept' (fun x hx => hne6 x (by have := (World.ownsRow.lt (zu HR5) x hx).1; omega)))
 have HB6 : Hid (Below W1.heap.size W1 W6) := hide ((zu HB5).trans hb6)
 have hs6 := hb6.size
 have hg6 : g < W6.heap.size := by omega
 clear hr6 hb6 hne6 HR5 HR5g
 have HLT := hide (leftTurns_any g c U.reverse W6 (by rw [List.length_reverse]; omega) hg6 (fun p hp => zu HUO p (List.mem_reverse.1 hp)) (zu HR6).ints)
 rw [List.length_reverse] at HLT
 go_wp2_with fail
 refine (zu HLT).mono ?_
 rintro e W7 ⟨v7, rfl, hr7, hb7⟩
 have HR7 := hide hr7
 have HRV : Hid (Row W7 w.heap.size 30 2 v5 (half U).length (flat2 (half U))) := hide (((zu HR5').below hb7).mono (by have := (zu HB1).size; omega))
 have HBW : Hid (Below w.heap.size w W7) := hide (bc (zu HB1) (bc (zu HB6) hb7))
 have hp1 := half_pos U (zu HUN)
 have hp2 := half_pos U.reverse (by rw [Ne, List.reverse_eq_nil_iff]; exact zu HUN)
 have l1 : (half U).length ≤ U.length := by have := halfR_le U; unfold half; rw [List.length_reverse]; exact this
 have l2 : (half U.reverse).length ≤ U.length := by have := halfR_le U.reverse; unfold half; rw [List.length_reverse]; rw [List.length_reverse] at this; exact this
 obtain ⟨g7, c7, rfl, hg71, hg72, hi7, hc7, hc72⟩ := hr7.full (by omega)
 have HI7 := hide hi7
 obtain ⟨u5, c5, rfl, _⟩ := (zu HRV).form
 have hs7 := hb7.size
 clear hr7 hb7 hi7 HLT HR6 HR5' HB6 HB5 HB4
 unfold hullP at HEQ
 generalize half U = X at *
 generalize half U.reverse = Y at *
 obtain ⟨M1, hM1⟩ : ∃ M1 : Nat, M1 = max 1 (Y.length - 1) := ⟨_, rfl⟩
 have wy : IntKind.i64.wrap ((Y.length : Int) - 1) = (Y.length : Int) - 1 := wrap_i (by omega) (by omega)
 have hmx : max (1 : Int) ((Y.length : Int) - 1) = (M1 : Int) := by omega
 have m1 : (1 : Int) ≤ (M1 : Int) := by omega
 have m2 : (M1 : Int) ≤ (c7 : Int) := by omega
 have m3 : (0 : Int) ≤ (M1 : Int) := by omega
 have EM1 := hide hM1
 by_cases hc : c7 = 1
 ·have hY1 : Y.length = 1 := by omega
  have hm0 : M1 = 1 := by omega
  clear hM1
  subst hm0
  subst hc
  have HY1 := hide hY1
  have hmx2 : max (1 : Int) ((Y.length : Int) - 1) = 1 := by omega
  clear hY1 hmx m1 m2 m3
  go_wp2_with (at_builtin; refine zu ?_)
  refine hide ?_
  refine wpList_append_own _ rfl _ _ 23 rfl w.heap.size 30 iP _ 2 16 Try.underlying23 hi1 hy0 hy1 hy2 rfl (by decide) _ _ _ rfl (zu HRV) ⟨g7, 0, none⟩ 0 0 ((flat2 ((Y.drop 1).take (1 - 1))).map (Value.int .i64)) rfl (by rw [List.length_map, flat2_len, List.length_take, List.length_drop]; have := zu EM1; omega) (fun j u hj => by simp [flat2] at hj) ints_one (by unfold maxLen; omega) (by omega) (by have := (zu HBW).size; omega) ?_
  intro v' wz hown' hgrow _
  have R := hide (own_more (wr := W7) (news := flat2 ((Y.drop 1).take (1 - 1))) (Below.refl _ _) (by have := (zu HBW).size; omega) (zu HRV) hown' hgrow)
  clear hown' hgrow
  go_wp2_with fail
  have HF : Hid (Row wz w.heap.size 30 2 v' (hullM U).length (flat2 (hullM U))) := hide (by
   have hR := (zu R).1
   rw [← zu HEQ, ← zu EM1, List.length_append, flat2_app]
   have e : ((Y.drop 1).take (1 - 1)).length = 0 := by rw [List.length_take, List.length_drop]; have := zu EM1; omega
   rw [e]
   exact hR)
  exact bodyPost_ret (v := .tuple #[v', .int .i64 0]) (by simp [results, Try.results9, go_sem]) rfl ⟨_, rfl, by rw [zu EU]; exact zu HF, (zu HBW).trans (zu R).2⟩
 ·clear hM1
  go_wp2_with (at_builtin; refine zu ?_)
  refine hide ?_
  refine wpList_append_own _ rfl _ _ 23 rfl w.heap.size 30 iP _ 2 16 Try.underlying23 hi1 hy0 hy1 hy2 rfl (by decide) _ _ _ rfl (zu HRV) ⟨g7, 2, none⟩ (M1 - 1) (c7 - 1) ((flat2 ((Y.drop 1).take (M1 - 1))).map (Value.int .i64)) rfl (by rw [List.length_map, flat2_len, List.length_take, List.length_drop]; have := zu EM1; omega) (src_cells (zu HI7) _ 2 (fun j x hj => by rw [← flat2_take, ← flat2_drop] at hj; rw [List.getElem?_take] at hj; split at hj; exact (by rw [List.getElem?_drop] at hj; exact hj); cases hj)) ints_one (by unfold maxLen; omega) (by omega) (by have := (zu HBW).size; omega) ?_
  intro v' wz hown' hgrow _
  have R := hide (own_more (wr := W7) (news := flat2 ((Y.drop 1).take (M1 - 1))) (Below.refl _ _) (by have := (zu HBW).size; omega) (zu HRV) hown' hgrow)
  clear hown' hgrow
  go_wp2_with fail
  have HF : Hid (Row wz w.heap.size 30 2 v' (hullM U).length (flat2 (hullM U))) := hide (by
   have hR := (zu R).1
   rw [← zu HEQ, ← zu EM1, List.length_append, flat2_app]
   have e : ((Y.drop 1).take (M1 - 1)).length = M1 - 1 := by rw [List.length_take, List.length_drop]; have := zu EM1; omega
   rw [e]
   exact hR)
  exact bodyPost_ret (v := .tuple #[v', .int .i64 0]) (by simp [results, Try.results9, go_sem]) rfl ⟨_, rfl, by rw [zu EU]; exact zu HF, (zu HBW).trans (zu R).2⟩
theorem ptsAt_flat {w : World} {g : Nat} {L : List Pt} (h : IntsAt w g 0 (flat2 L)) : PtsAt w g 0 L := by
 intro j p hj
 exact ⟨h _ _ (flat2_at hj).1, h _ _ (flat2_at hj).2⟩
set_option maxHeartbeats 2000000 in
set_option maxRecDepth 100000 in
theorem hullI_any (b cap : Nat) (L : List Pt) (w : World) (hn : L.length ≤ 4611686018427387904) (hb : b < w.heap.size) (hI : IntsAt w b 0 (flat2 L)) :
  Calls Try.prog 9 #[.slice (some ⟨b, 0, none⟩) L.length cap] w fun e w' => ∃ v, e = .returned (.tuple #[v, .int .i64 (hullC L)]) ∧ Row w' w.heap.size 30 2 v (hullL L).length (flat2 (hullL L)) ∧ Below w.heap.size w w' := by
 have HP := hide (ptsP_any b 0 cap L w hn hb (ptsAt_flat hI))
 have HI := hide hI
 unfold hullC hullL
 clear hI
 by_cases h1 : 4096 < L.length
 ·rw [if_pos h1, if_pos h1]
  have d0 : decide ((4096 : Int) < (L.length : Int)) = true := decide_eq_true (by omega)
  go_enter Try.func9, Try.ntmps9
  go_wp2_with fail
  exact bodyPost_ret (v := .tuple #[.slice none 0 0, .int .i64 2]) (by simp [results, Try.results9, go_sem]) rfl ⟨_, rfl, World.ownsRow_nil _ _ _ _, Below.refl _ _⟩
 ·rw [if_neg h1, if_neg h1]
  have d0 : decide ((4096 : Int) < (L.length : Int)) = false := decide_eq_false (by omega)
  by_cases h2 : 1 ≤ L.length ∧ L.length ≤ 200
  ·have d1 : decide ((1 : Int) ≤ (L.length : Int)) = true := decide_eq_true (by omega)
   have d2 : decide ((L.length : Int) ≤ 200) = true := decide_eq_true (by omega)
   cases ho : L.all ptOk with
   | false =>
    rw [if_neg (by simp), if_neg (by simp)]
    rw [ho] at HP
    go_enter Try.func9, Try.ntmps9
    go_wp2_with fail
    refine (btw_any _ _ _ _).mono ?_
    rintro e w' ⟨rfl, hww⟩
    have hww' := hww.symm
    clear hww
    subst hww'
    rw [d1, d2]
    go_wp2_with fail
    refine (zu HP).mono ?_
    rintro e W1 ⟨rfl, hb1⟩
    have HB1 := hide hb1
    clear hb1
    go_wp2_with fail
    exact bodyPost_ret (v := .tuple #[.slice none 0 0, .int .i64 1]) (by simp [results, Try.results9, go_sem]) rfl ⟨_, rfl, World.ownsRow_nil _ _ _ _, zu HB1⟩
   | true =>
    rw [if_pos ⟨h2.1, h2.2, rfl⟩, if_pos ⟨h2.1, h2.2, rfl⟩]
    rw [ho] at HP
    exact hullP_good b cap L w h2.1 h2.2 ho hb (zu HI) HP
  ·rw [if_neg (fun h => h2 ⟨h.1, h.2.1⟩), if_neg (fun h => h2 ⟨h.1, h.2.1⟩)]
   have d3 : (decide ((1 : Int) ≤ (L.length : Int)) && decide ((L.length : Int) ≤ 200)) = false := by
    rw [Bool.and_eq_false_iff]
    by_cases h3 : 1 ≤ L.length
    ·exact .inr (decide_eq_false (by omega))
    ·exact .inl (decide_eq_false (by omega))
   go_enter Try.func9, Try.ntmps9
   go_wp2_with fail
   refine (btw_any _ _ _ _).mono ?_
   rintro e w' ⟨rfl, hww⟩
   have hww' := hww.symm
   clear hww
   subst hww'
   rw [d3]
   go_wp2_with fail
   exact bodyPost_ret (v := .tuple #[.slice none 0 0, .int .i64 1]) (by simp [results, Try.results9, go_sem]) rfl ⟨_, rfl, World.ownsRow_nil _ _ _ _, Below.refl _ _⟩
theorem fold_mem (L : List Pt) : ∀ (s : List Pt) (q : Pt), q ∈ L.foldl (fun rs p => p :: popR rs p) s → q ∈ s ∨ q ∈ L := by
 induction L with
 | nil => intro s q h; exact .inl h
 | cons p L ih =>
  intro s q h
  rcases ih _ q h with h1 | h1
  ·rcases List.mem_cons.1 h1 with h2 | h2
   ·exact .inr (by simp [h2])
   ·exact .inl (popR_mem s p q h2)
  ·exact .inr (by simp [h1])
theorem half_mem {L : List Pt} {q : Pt} (h : q ∈ half L) : q ∈ L := by
 unfold half halfR at h
 rw [List.mem_reverse] at h
 rcases fold_mem L [] q h with h1 | h1
 ·cases h1
 ·exact h1
theorem hull_mem {U : List Pt} {q : Pt} (h : q ∈ hullM U) : q ∈ U := by
 unfold hullM at h
 split at h
 ·exact h
 ·rcases List.mem_append.1 h with h1 | h1
  ·exact half_mem ((List.dropLast_sublist _).subset h1)
  ·have := half_mem ((List.dropLast_sublist _).subset h1)
   rwa [List.mem_reverse] at this
theorem hull_in {L : List Pt} {q : Pt} (h : q ∈ hullM (srtU L)) : q ∈ L := ((srtU_facts L).2 q).1 (hull_mem h)
theorem hull_some {U : List Pt} (h : U ≠ []) : 1 ≤ (hullM U).length := by
 unfold hullM
 split
 ·cases U with
  | nil => exact absurd rfl h
  | cons a U => simp
 ·rename_i h3
  cases U with
  | nil => exact absurd rfl h
  | cons a U =>
   cases U with
   | nil => simp at h3
   | cons b U =>
    have := (half_facts (a := a) (L := b :: U) (by simp)).2.2.1
    rw [List.length_append, List.length_dropLast]
    omega
theorem hull_sides {L : List Pt} (h3 : 3 ≤ (hullM (srtU L)).length) {i : Nat} (hi : i < (hullM (srtU L)).length) : ∀ q ∈ L, 0 ≤ side (ptAt (hullM (srtU L)) i) (ptAt (hullM (srtU L)) ((i + 1) % (hullM (srtU L)).length)) q := by
 intro q hq
 have hU : 3 ≤ (srtU L).length := by
  by_cases h : (srtU L).length < 3
  ·have : hullM (srtU L) = srtU L := by unfold hullM; rw [if_pos h]
   rw [this] at h3
   omega
  ·omega
 exact hull_left (srtU_facts L).1 hU (ptAt_some hi) (ptAt_some (Nat.mod_lt _ (by omega))) q (((srtU_facts L).2 q).2 hq)
theorem nr_near {L : List Pt} (h : L.all nrP = true) : Near L := fun p hp => by
 have := List.all_eq_true.1 h p hp
 unfold nrP at this
 exact of_decide_eq_true this
theorem nr_ptok {L : List Pt} (h : L.all nrP = true) : L.all ptOk = true := List.all_eq_true.2 (fun p hp => near_ok (nr_near h p hp))
def zhl (L : List Pt) (i : Nat) : Zo := zn L (ptAt (hullM (srtU L)) i) (ptAt (hullM (srtU L)) ((i + 1) % (hullM (srtU L)).length))
def zoR (L : List Pt) : Zo := if mcC L ≠ 0 then ⟨0, 0, 0, 0, 0⟩ else if (hullM (srtU L)).length < 3 then ⟨fi L (ptAt (hullM (srtU L)) 0), fi L (ptAt (hullM (srtU L)) ((hullM (srtU L)).length - 1)), fi L (ptAt (hullM (srtU L)) 0), 0, max 1 (sqd (ptAt (hullM (srtU L)) 0) (ptAt (hullM (srtU L)) ((hullM (srtU L)).length - 1)))⟩ else bst (zhl L) ((hullM (srtU L)).length - 1)
theorem zon_info : (Try.prog.info? 26).map (fun i => (i.zero, i.size, i.bytes)) = some (some (.agg #[.int .i64 0, .int .i64 0, .int .i64 0, .int .i64 0, .int .i64 0]), 5, 40) := by kernel_rfl
structure Mz (g : Nat) (w w' : World) : Prop where
 os : w'.os = w.os
 tape : w'.tape = w.tape
 output : w'.output = w.output
 size : w.heap.size ≤ w'.heap.size
 block : ∀ k, k < w.heap.size → k ≠ g → w'.heap[k]? = w.heap[k]?
theorem Mz.of_bel {g : Nat} {w w' : World} (h : Below w.heap.size w w') : Mz g w w' := ⟨h.os, h.tape, h.output, h.size, fun k hk _ => h.block k hk⟩
theorem Mz.trans {g : Nat} {x y z : World} (h : Mz g x y) (k : Mz g y z) : Mz g x z :=
  ⟨k.os.trans h.os, k.tape.trans h.tape, k.output.trans h.output, Nat.le_trans h.size k.size, fun i hi h1 => (k.block i (Nat.lt_of_lt_of_le hi h.size) h1).trans (h.block i hi h1)⟩
theorem Mz.set {g : Nat} {x y : World} (h : Mz g x y) (o : Nat) (v : Value) : Mz g x (y.setCell ⟨g, o, none⟩ v) :=
 h.trans ⟨rfl, rfl, rfl, by simp [World.setCell], fun k _ h1 => Below.heap_setCell _ _ _ _ h1⟩
theorem Mz.bel {g B : Nat} {x y : World} (h : Mz g x y) (hB : B ≤ x.heap.size) (hg : B ≤ g) : Below B x y := ⟨h.os, h.tape, h.output, h.size, fun k hk => h.block k (by omega) (by omega)⟩
set_option maxHeartbeats 4000000 in
set_option maxRecDepth 100000 in
theorem zoP_any (b cap : Nat) (L : List Pt) (w : World) (hn : L.length ≤ 1048576) (hb : b < w.heap.size) (hI : IntsAt w b 0 (flat2 L)) :
  Calls Try.prog 7 #[.slice (some ⟨b, 0, none⟩) L.length cap] w fun e w' => e = .returned (.tuple #[zoV (zoR L), .int .i64 (mcC L)]) ∧ Below w.heap.size w w' := by
 have HB0 := hide (ba (Below.refl w.heap.size w) (.cells #[.int .i64 0, .int .i64 0, .int .i64 0, .int .i64 0, .int .i64 0] 26))
 have H2 : Hid (cb (w.alloc (.cells #[.int .i64 0, .int .i64 0, .int .i64 0, .int .i64 0, .int .i64 0] 26)) w.heap.size 26 z5) := hide (cb_new w 26 z5 _ rfl)
 have HMC := hide (mcP_any b cap L (w.alloc (.cells #[.int .i64 0, .int .i64 0, .int .i64 0, .int .i64 0, .int .i64 0] 26)) (by omega) (Nat.lt_of_lt_of_le hb (zu HB0).size) (ptsAt_flat (hI.below (zu HB0) hb)))
 have HI := hide hI
 by_cases h0 : mcC L = 0
 ·have hall : 1 ≤ L.length ∧ L.length ≤ 200 ∧ L.all nrP = true := by
   unfold mcC at h0
   split at h0
   ·omega
   ·split at h0
    ·assumption
    ·omega
  have hN := nr_near hall.2.2
  have hLne : L ≠ [] := fun e => by rw [e] at hall; simp at hall
  have HHU := hide (fun X (hX : Below w.heap.size w X) => hullI_any b cap L X (by omega) (Nat.lt_of_lt_of_le hb hX.size) (hI.below hX hb))
  have hhC : hullC L = 0 := by unfold hullC; rw [if_neg (by omega), if_pos ⟨hall.1, hall.2.1, nr_ptok hall.2.2⟩]
  have hhL : hullL L = hullM (srtU L) := by unfold hullL; rw [if_neg (by omega), if_pos ⟨hall.1, hall.2.1, nr_ptok hall.2.2⟩]
  rw [hhC, hhL] at HHU
  have hm1 : 1 ≤ (hullM (srtU L)).length := hull_some (srtU_ne hLne)
  have hm400 : (hullM (srtU L)).length ≤ 400 := by
   have h1 := hullM_le (srtU L)
   have h2 := srtU_len L
   omega
  have HHI := hide (fun q (h : q ∈ hullM (srtU L)) => hull_in (L := L) h)
  have HHS := hide (fun h3 i hi => hull_sides (L := L) h3 (i := i) hi)
  have HZR : Hid (zoR L = if (hullM (srtU L)).length < 3 then ⟨fi L (ptAt (hullM (srtU L)) 0), fi L (ptAt (hullM (srtU L)) ((hullM (srtU L)).length - 1)), fi L (ptAt (hullM (srtU L)) 0), 0, max 1 (sqd (ptAt (hullM (srtU L)) 0) (ptAt (hullM (srtU L)) ((hullM (srtU L)).length - 1)))⟩ else bst (fun i => zn L (ptAt (hullM (srtU L)) i) (ptAt (hullM (srtU L)) ((i + 1) % (hullM (srtU L)).length))) ((hullM (srtU L)).length - 1)) := hide (by unfold zoR; rw [if_neg (by simp [h0])]; rfl)
  rw [h0] at HMC ⊢
  obtain ⟨Hl, hHl⟩ : ∃ Hl, hullM (srtU L) = Hl := ⟨_, rfl⟩
  rw [hHl] at HHU hm1 hm400 HHI HHS HZR
  obtain ⟨m, hm⟩ : ∃ m, Hl.length = m := ⟨_, rfl⟩
  rw [hm] at HHU hm1 hm400 HHS HZR
  have HHM := hide hm
  obtain ⟨n, hLn⟩ : ∃ n, L.length = n := ⟨_, rfl⟩
  have HLN := hide hLn
  rw [hLn] at HMC HHU hn hall ⊢
  clear hhC hhL hHl hm hI h0 hLn
  go_enter Try.func7, Try.ntmps7
  go_wp2_with fail
  generalize w.alloc (.cells #[.int .i64 0, .int .i64 0, .int .i64 0, .int .i64 0, .int .i64 0] 26) = W0 at *
  refine (zu HMC).mono ?_
  rintro e W1 ⟨rfl, hb1⟩
  have H2a := hide ((zu H2).bel hb1)
  have HBa := hide (bc (zu HB0) hb1)
  clear hb1 H2 HB0 HMC
  go_wp2_with fail
  refine (zu HHU _ (zu HBa)).mono ?_
  rintro e W2 ⟨v, rfl, hr2, hb2⟩
  obtain ⟨gh, ch, rfl, hgh1, hgh2, hhi, hcm1, hcm2⟩ := hr2.full (by omega)
  have HHX := hide hhi
  have H2b := hide ((zu H2a).bel hb2)
  have HBb := hide (bc (zu HBa) hb2)
  have HIb := hide ((zu HI).below (zu HBb) hb)
  have hbb : b < W2.heap.size := Nat.lt_of_lt_of_le hb (zu HBb).size
  have hwb : w.heap.size < W2.heap.size := (zu H2b).lt
  clear hr2 hb2 hhi H2a HBa HHU HI
  by_cases h3 : m < 3
  ·have d3 : decide ((m : Int) < 3) = true := decide_eq_true (by omega)
   obtain ⟨q, hq⟩ : ∃ q, m - 1 = q := ⟨_, rfl⟩
   have wq : IntKind.i64.wrap ((m : Int) - 1) = (q : Int) := (wr64 (by omega) (by omega)).trans (by omega)
   have hp0 := ptAt_some (L := Hl) (i := 0) (by rw [zu HHM]; omega)
   have hpq := ptAt_some (L := Hl) (i := q) (by rw [zu HHM]; omega)
   have ma := zu HHI _ (List.mem_of_getElem? hp0)
   have mc := zu HHI _ (List.mem_of_getElem? hpq)
   have HZ3 : Hid (zoR L = ⟨fi L (ptAt Hl 0), fi L (ptAt Hl q), fi L (ptAt Hl 0), 0, max 1 (sqd (ptAt Hl 0) (ptAt Hl q))⟩) := hide (by rw [zu HZR, if_pos h3, hq])
   obtain ⟨⟨a1, a2⟩, ha⟩ : ∃ a, ptAt Hl 0 = a := ⟨_, rfl⟩
   obtain ⟨⟨c1, c2⟩, hc⟩ : ∃ c, ptAt Hl q = c := ⟨_, rfl⟩
   rw [ha] at hp0 ma HZ3
   rw [hc] at hpq mc HZ3
   obtain ⟨A0, A1⟩ := pts_at (zu HHX) hp0
   obtain ⟨C0, C1⟩ := pts_at (zu HHX) hpq
   simp only [Nat.zero_mul, Nat.zero_add] at A0 A1
   have HA0 := hide A0
   have HA1 := hide A1
   have HC0 := hide C0
   have HC1 := hide C1
   have hqm : q < m := by omega
   clear ha hc hp0 hpq A0 A1 C0 C1 hq
   go_wp2_with fail
   refine Go.Code.wp_mono (Only.to (fun _ _ h => h)) (zp8 (z := ⟨fi L (a1, a2), fi L (c1, c2), fi L (a1, a2), 0, max 1 (sqd (a1, a2) (c1, c2))⟩) hwb HA0 HA1 HC0 HC1 (hide wq) (hide (by omega)) (hide (by omega)) (hide (zu H2b).zero) (hide (zu H2b).frozen)
    (hide fun X hX => fzP_any b cap n L a1 a2 c1 c2 X (zu HLN) (by omega) hN ma mc (Nat.lt_of_lt_of_le hbb hX.size) ((zu HIb).below hX hbb)) (fun W9 hW9 => ?_))
   have V4 := hide ((((((zu H2b).bel hW9).set 0 (.int .i64 (fi L (a1, a2) : Int))).set 1 (.int .i64 (fi L (c1, c2) : Int))).set 2 (.int .i64 (fi L (a1, a2) : Int))).set 3 (.int .i64 0) |>.set 4 (.int .i64 (max 1 (sqd (a1, a2) (c1, c2)))))
   have HB9 := hide (bc (zu HBb) hW9)
   clear hW9
   have s0 := (zu V4).cell (m := 0) rfl
   have s1 := (zu V4).cell (m := 1) rfl
   have s2 := (zu V4).cell (m := 2) rfl
   have s3 := (zu V4).cell (m := 3) rfl
   have s4 := (zu V4).cell (m := 4) rfl
   go_wp2_with fail
   refine bodyPost_ret (v := .tuple #[.agg #[.int .i64 (fi L (a1, a2) : Int), .int .i64 (fi L (c1, c2) : Int), .int .i64 (fi L (a1, a2) : Int), .int .i64 0, .int .i64 (max 1 (sqd (a1, a2) (c1, c2)))], .int .i64 0]) (by simp [results, Try.results7, go_sem, s0, s1, s2, s3, s4]) rfl ⟨by rw [zu HZ3]; rfl, ?_⟩
   exact Below.setCell (Below.setCell (Below.setCell (Below.setCell (Below.setCell (zu HB9) (Nat.le_refl _) _) (Nat.le_refl _) _) (Nat.le_refl _) _) (Nat.le_refl _) _) (Nat.le_refl _) _
  ·have d3 : decide ((m : Int) < 3) = false := decide_eq_false (by omega)
   obtain ⟨z, hz⟩ : ∃ z : Nat → Zo, (fun i => zn L (ptAt Hl i) (ptAt Hl ((i + 1) % m))) = z := ⟨_, rfl⟩
   have hze : ∀ i, zn L (ptAt Hl i) (ptAt Hl ((i + 1) % m)) = z i := fun i => by rw [← hz]
   have HZ3 : Hid (zoR L = bst z (m - 1)) := hide (by rw [zu HZR, if_neg h3, hz])
   have HZK : Hid (∀ i, i < m → ZoOk (z i)) := hide (fun i hi => by
    rw [← hze]
    exact zn_ok hN (by rw [zu HLN]; exact hall.1) (zu HHI _ (List.mem_of_getElem? (ptAt_some (by rw [zu HHM]; exact hi)))) (zu HHI _ (List.mem_of_getElem? (ptAt_some (by rw [zu HHM]; exact Nat.mod_lt _ (by omega))))))
   have HZA : Hid (∀ i X, i < m → b < X.heap.size → IntsAt X b 0 (flat2 L) → Calls Try.prog 24 #[.slice (some ⟨b, 0, none⟩) n cap, .agg #[.int .i64 (ptAt Hl i).1, .int .i64 (ptAt Hl i).2, .int .i64 (ptAt Hl ((i + 1) % m)).1, .int .i64 (ptAt Hl ((i + 1) % m)).2]] X fun e w' => e = .returned (zoV (z i)) ∧ Below X.heap.size X w') := hide (fun i X hi hbX hIX => by
    rw [← hze]
    exact zaP_any b cap n L _ _ _ _ X (zu HLN) hall.1 hall.2.1 hN (zu HHI _ (List.mem_of_getElem? (ptAt_some (by rw [zu HHM]; exact hi)))) (zu HHI _ (List.mem_of_getElem? (ptAt_some (by rw [zu HHM]; exact Nat.mod_lt _ (by omega))))) (zu HHS (by omega) i hi) hbX hIX)
   have HSO := hide (fun X (hX : Below W2.heap.size W2 X) => sidesOf_any gh 0 ch m Hl X HHM hm400 (Nat.lt_of_lt_of_le hgh2 hX.size) (hide (ptsAt_flat ((zu HHX).below hX hgh2))))
   have HSA : Hid (∀ i, i < m → (flatG (sides Hl))[i * 4]? = some (ptAt Hl i).1 ∧ (flatG (sides Hl))[i * 4 + 1]? = some (ptAt Hl i).2 ∧ (flatG (sides Hl))[i * 4 + 2]? = some (ptAt Hl ((i + 1) % m)).1 ∧ (flatG (sides Hl))[i * 4 + 3]? = some (ptAt Hl ((i + 1) % m)).2) := hide fun i hi => by
    have h1 := flatG_at (sides Hl) i _ (sides_at Hl i (by rw [zu HHM]; exact hi))
    rw [zu HHM] at h1
    exact h1
   have hmk := fun W => make_ints (P := Try.prog) 55 26 5 40 m Try.underlying55 (.agg #[.int .i64 0, .int .i64 0, .int .i64 0, .int .i64 0, .int .i64 0]) (by rfl) (by omega) zon_info (by omega) (by omega) W
   have HFL : Hid ((flatZ z m).length = m * 5) := hide (flatZ_len z m)
   have HFA := hide (fun i (h : i < m) => flatZ_at z m i h)
   obtain ⟨F, hF⟩ : ∃ F, flatZ z m = F := ⟨_, rfl⟩
   rw [hF] at HFL
   simp only [hF] at HFA
   have HFE := hide hF
   generalize flatG (sides Hl) = G at *
   generalize hzz : zeros (m * 5) = Z at hmk
   have HZZ := hide hzz
   clear hzz hF hz hze
   go_wp2_with fail
   have HG := hide (iblk_new W2 26 Z)
   have HBZ := hide (ba (Below.refl W2.heap.size W2) (.cells (Z.map (Value.int .i64)).toArray 26))
   clear hmk
   try go_wp2_with fail
   generalize W2.alloc (.cells (Z.map (Value.int .i64)).toArray 26) = W3 at *
   obtain ⟨gz, hgz⟩ : ∃ gz, W2.heap.size = gz := ⟨_, rfl⟩
   refine (zu HSO _ (zu HBZ)).mono ?_
   rintro e W4 ⟨⟨gs, rfl, hgs1, hgs2⟩, hb4⟩
   have HGI := hide hgs2.ints
   have HGZ : Hid (iblk W4 gz 26 Z) := hide (by rw [← hgz]; exact (zu HG).bel hb4)
   have HB4 := hide (bc (zu HBZ) hb4)
   have hgsl := hgs2.lt
   have hgzs : gz < gs := by have := (zu HG).lt; omega
   have HBB4 : Hid (Below w.heap.size w W4) := hide (bc (zu HBb) (zu HB4))
   have H2d := hide ((zu H2b).bel (zu HB4))
   have HI4 := hide ((zu HIb).below (zu HB4) hbb)
   have hb4l : b < W4.heap.size := Nat.lt_of_lt_of_le hbb (zu HB4).size
   have hbz : b ≠ gz := by omega
   have hwz : w.heap.size ≠ gz := by omega
   have hwzl : w.heap.size < gz := by omega
   rw [hgz]
   clear hgs1 hgs2 hb4 HG HBZ HSO HB4 H2b HIb HBb hgz
   go_wp2_with fail
   go_loopw [46] (fun zz X => ∃ i : Nat, zz = .int .i64 (i : Int) ∧ i ≤ m ∧ iblk X gz 26 (F.take (i * 5) ++ zeros (F.length - i * 5)) ∧ Mz gz W4 X) (fun zz _ => m - (intOf zz).toNat)
   case atStart =>
    refine ⟨0, rfl, Nat.zero_le _, ?_, Mz.of_bel (Below.refl _ _)⟩
    have e : F.take (0 * 5) ++ zeros (F.length - 0 * 5) = Z := by rw [zu HFL, ← zu HZZ]; simp
    rw [e]
    exact zu HGZ
   case round =>
    obtain ⟨i, rfl, hi, hzb, hw⟩ := hrel
    have HZB := hide hzb
    have HW := hide hw
    by_cases h : i < m
    ·have i1 : (i : Int) < (m : Int) := by omega
     have i0 : (0 : Int) ≤ (i : Int) := Int.natCast_nonneg _
     have iz : decide ((i : Int) < (m : Int)) = true := decide_eq_true i1
     obtain ⟨g0, g1, g2, g3⟩ := zu HSA i h
     have hgx : IntsAt wr gs 0 G := fun j v hj => (World.cell?_of_block (w := W4) (a := ⟨gs, 0 + j, none⟩) (hw.block gs hgsl (by omega))).trans ((zu HGI) j v hj)
     have x0 := hgx _ _ g0
     have x1 := hgx _ _ g1
     have x2 := hgx _ _ g2
     have x3 := hgx _ _ g3
     simp only [Nat.zero_add] at x0 x1 x2 x3
     have hIw : IntsAt wr b 0 (flat2 L) := fun j v hj => (World.cell?_of_block (w := W4) (a := ⟨b, 0 + j, none⟩) (hw.block b hb4l hbz)).trans ((zu HI4) j v hj)
     have hbw : b < wr.heap.size := Nat.lt_of_lt_of_le hb4l hw.size
     have HZAi := hide (fun X h1 h2 => zu HZA i X h h1 h2)
     have HAT := hide (zu HFA i h)
     obtain ⟨⟨p1, p2⟩, hp⟩ : ∃ p, ptAt Hl i = p := ⟨_, rfl⟩
     obtain ⟨⟨q1, q2⟩, hq⟩ : ∃ q, ptAt Hl ((i + 1) % m) = q := ⟨_, rfl⟩
     rw [hp] at x0 x1 HZAi
     rw [hq] at x2 x3 HZAi
     simp only at x0 x1 x2 x3 HZAi
     unfold zoV at HZAi
     obtain ⟨⟨zA, zB, zC, zN, zD⟩, hzi⟩ : ∃ q, z i = q := ⟨_, rfl⟩
     rw [hzi] at HZAi HAT
     simp only at HZAi HAT
     have HXW : Hid (Below wr.heap.size wr (wr.alloc (.cells #[.int .i64 p1, .int .i64 p2, .int .i64 q1, .int .i64 q2] 54))) := hide (ba (Below.refl _ _) _)
     have V9 := hide (cb_new wr 54 [.int .i64 p1, .int .i64 p2, .int .i64 q1, .int .i64 q2] wr.heap.size rfl)
     have HIx := hide (hIw.below (zu HXW) hbw)
     have hbx : b < (wr.alloc (.cells #[.int .i64 p1, .int .i64 p2, .int .i64 q1, .int .i64 q2] 54)).heap.size := Nat.lt_of_lt_of_le hbw (zu HXW).size
     have HZBx := hide (hzb.bel (zu HXW))
     have HWx := hide ((zu HW).trans (Mz.of_bel (zu HXW)))
     clear g0 g1 g2 g3 hgx hp hq hzi hzb hw HW HZB hIw
     go_wp2_with fail
     generalize wr.alloc (.cells #[.int .i64 p1, .int .i64 p2, .int .i64 q1, .int .i64 q2] 54) = Wx at *
     generalize wr.heap.size = b9 at *
     have n0 := (zu V9).cell (m := 0) rfl
     have n1 := (zu V9).cell (m := 1) rfl
     have n2 := (zu V9).cell (m := 2) rfl
     have n3 := (zu V9).cell (m := 3) rfl
     clear x0 x1 x2 x3
     try go_wp2_with fail
     refine (zu HZAi Wx hbx (zu HIx)).mono ?_
     rintro e Wy ⟨rfl, hby⟩
     have HZBy := hide ((zu HZBx).bel hby)
     have HWy := hide ((zu HWx).trans (Mz.of_bel hby))
     have j0 : i * 5 + 4 < F.length := by rw [zu HFL]; omega
     have m0' : Wy.cell? ⟨gz, i * 5, none⟩ = some (.int .i64 0) := (zu HZBy).cell (fill_at F (i * 5) 0 (by omega))
     have m1' : Wy.cell? ⟨gz, i * 5 + 1, none⟩ = some (.int .i64 0) := (zu HZBy).cell (fill_at F (i * 5) 1 (by omega))
     have m2' : Wy.cell? ⟨gz, i * 5 + 2, none⟩ = some (.int .i64 0) := (zu HZBy).cell (fill_at F (i * 5) 2 (by omega))
     have m3' : Wy.cell? ⟨gz, i * 5 + 3, none⟩ = some (.int .i64 0) := (zu HZBy).cell (fill_at F (i * 5) 3 (by omega))
     have m4' : Wy.cell? ⟨gz, i * 5 + 4, none⟩ = some (.int .i64 0) := (zu HZBy).cell (fill_at F (i * 5) 4 (by omega))
     have fz : ∀ o, Wy.frozen? ⟨gz, o, none⟩ = false := (zu HZBy).frozen
     have J0 := hide j0
     clear hby j0 n0 n1 n2 n3 HZBx HWx
     go_wp2_with fail
     go_roundw
     case rel =>
      refine ⟨i + 1, by simp, h, ?_, ?_⟩
      ·have h1 := (((((zu HZBy).set (i * 5) zA).set (i * 5 + 1) zB).set (i * 5 + 2) zC).set (i * 5 + 3) zN).set (i * 5 + 4) zD
       have jj := zu J0
       rw [fill_step F (i * 5) (by omega) _ (zu HAT).1, fill_step F (i * 5 + 1) (by omega) _ (zu HAT).2.1, fill_step F (i * 5 + 2) (by omega) _ (zu HAT).2.2.1, fill_step F (i * 5 + 3) (by omega) _ (zu HAT).2.2.2.1, fill_step F (i * 5 + 4) (by omega) _ (zu HAT).2.2.2.2] at h1
       rw [show (i + 1) * 5 = i * 5 + 5 by omega]
       exact h1
      ·exact (((((zu HWy).set _ _).set _ _).set _ _).set _ _).set _ _
     case measure => simp only [intOf]; omega
    ·have iz : decide ((i : Int) < (m : Int)) = false := decide_eq_false (by omega)
     obtain rfl : m = i := by omega
     have hfin : IntsAt wr gz 0 (flatZ z m) := by
      have h1 := hzb
      rw [List.take_of_length_le (by rw [zu HFL]; omega), show F.length - m * 5 = 0 by rw [zu HFL]; omega] at h1
      have h2 : iblk wr gz 26 F := by simpa [zeros] using h1
      rw [zu HFE]
      exact h2.ints
     have hgzl : gz < wr.heap.size := hzb.lt
     have HMN := hide (mnP_any gz m m z wr hm1 hm400 (zu HZK) hgzl hfin)
     have H2x : Hid (cb wr w.heap.size 26 z5) := hide ((hw.block w.heap.size (zu H2d).lt hwz).trans (zu H2d))
     have HBX : Hid (Below w.heap.size w wr) := hide ((zu HBB4).trans (hw.bel (by have := (zu HBB4).size; omega) (by omega)))
     obtain ⟨bz, hbze⟩ : ∃ bz, bst z (m - 1) = bz := ⟨_, rfl⟩
     rw [hbze] at HMN HZ3
     unfold zoV at HMN
     clear hzb hw hfin hbze
     go_wp2_with fail
     refine (zu HMN).mono ?_
     rintro e We ⟨rfl, hbe⟩
     have H2y := hide ((zu H2x).bel hbe)
     have HBY := hide (bc (zu HBX) hbe)
     have o0 := (zu H2y).cell (m := 0) rfl
     have o1 := (zu H2y).cell (m := 1) rfl
     have o2 := (zu H2y).cell (m := 2) rfl
     have o3 := (zu H2y).cell (m := 3) rfl
     have o4 := (zu H2y).cell (m := 4) rfl
     have of := (zu H2y).frozen
     clear hbe
     go_wp2_with fail
     have V4 := hide (((((zu H2y).set 0 (.int .i64 bz.A)).set 1 (.int .i64 bz.B)).set 2 (.int .i64 bz.C)).set 3 (.int .i64 bz.N) |>.set 4 (.int .i64 bz.D))
     have s0 := (zu V4).cell (m := 0) rfl
     have s1 := (zu V4).cell (m := 1) rfl
     have s2 := (zu V4).cell (m := 2) rfl
     have s3 := (zu V4).cell (m := 3) rfl
     have s4 := (zu V4).cell (m := 4) rfl
     refine bodyPost_ret (v := .tuple #[.agg #[.int .i64 bz.A, .int .i64 bz.B, .int .i64 bz.C, .int .i64 bz.N, .int .i64 bz.D], .int .i64 0]) (by simp [results, Try.results7, go_sem, s0, s1, s2, s3, s4]) rfl ⟨by rw [zu HZ3]; rfl, ?_⟩
     exact Below.setCell (Below.setCell (Below.setCell (Below.setCell (Below.setCell (zu HBY) (Nat.le_refl _) _) (Nat.le_refl _) _) (Nat.le_refl _) _) (Nat.le_refl _) _) (Nat.le_refl _) _
 ·have HZR : Hid (zoR L = ⟨0, 0, 0, 0, 0⟩) := hide (by unfold zoR; rw [if_pos h0])
  have d0 : (mcC L != 0) = true := by simpa using h0
  generalize mcC L = cc at *
  clear hI h0
  go_enter Try.func7, Try.ntmps7
  go_wp2_with fail
  generalize w.alloc (.cells #[.int .i64 0, .int .i64 0, .int .i64 0, .int .i64 0, .int .i64 0] 26) = W0 at *
  refine (zu HMC).mono ?_
  rintro e W1 ⟨rfl, hb1⟩
  have H2y := hide ((zu H2).bel hb1)
  have HBY := hide (bc (zu HB0) hb1)
  have o0 := (zu H2y).cell (m := 0) rfl
  have o1 := (zu H2y).cell (m := 1) rfl
  have o2 := (zu H2y).cell (m := 2) rfl
  have o3 := (zu H2y).cell (m := 3) rfl
  have o4 := (zu H2y).cell (m := 4) rfl
  have of := (zu H2y).frozen
  clear hb1
  go_wp2_with fail
  have V4 := hide (((((zu H2y).set 0 (.int .i64 0)).set 1 (.int .i64 0)).set 2 (.int .i64 0)).set 3 (.int .i64 0) |>.set 4 (.int .i64 0))
  have s0 := (zu V4).cell (m := 0) rfl
  have s1 := (zu V4).cell (m := 1) rfl
  have s2 := (zu V4).cell (m := 2) rfl
  have s3 := (zu V4).cell (m := 3) rfl
  have s4 := (zu V4).cell (m := 4) rfl
  refine bodyPost_ret (v := .tuple #[.agg #[.int .i64 0, .int .i64 0, .int .i64 0, .int .i64 0, .int .i64 0], .int .i64 cc]) (by simp [results, Try.results7, go_sem, s0, s1, s2, s3, s4]) rfl ⟨by rw [zu HZR]; rfl, ?_⟩
  exact Below.setCell (Below.setCell (Below.setCell (Below.setCell (Below.setCell (zu HBY) (Nat.le_refl _) _) (Nat.le_refl _) _) (Nat.le_refl _) _) (Nat.le_refl _) _) (Nat.le_refl _) _
end Go.Proofs.Ytdcecfgmfmpeeaa
