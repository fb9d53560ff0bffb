/-
  The model's RingOf where there are corners enough.
-/
import Derived.Test.YtdcecfgmfmpeeaaRgPq
import Derived.Test.YtdcecfgmfmpeeaaRgYq
import Derived.Test.YtdcecfgmfmpeeaaRgZq
import Derived.Test.YtdcecfgmfmpeeaaRgAaq
import Derived.Test.YtdcecfgmfmpeeaaRgAbq
namespace Go.Proofs.Ytdcecfgmfmpeeaa
open Go.ChangeShapes Go.WideShapes Go.ChangeAt Go.RowKit
set_option linter.unusedVariables false
set_option linter.unusedSimpArgs false
def Ans (A : List Nat) (Q2 : Nat → Nat → Bool) (Q3 : Nat → Nat → Nat → Bool) (T2 : Nat → Nat → Ic) (T3 : Nat → Nat → Nat → Ic) (v : Value) : Prop :=
 (∀ i j, fp Q2 A = some (i, j) → v = rgV 2 (i : Int) (j : Int) 0 (T2 i j)) ∧ (fp Q2 A = none → ∀ i j l, ft Q3 A = some (i, j, l) → v = rgV 3 (i : Int) (j : Int) (l : Int) (T3 i j l))
set_option maxHeartbeats 8000000 in
set_option maxRecDepth 100000 in
theorem mrM_main (b cap n hn : Nat) (P H : List Pt) (A : Nat → List Nat) (KK : Nat → Nat) (Q2 : Nat → Nat → Bool) (Q3 TO : Nat → Nat → Nat → Bool) (T2 : Nat → Nat → Ic) (T3 : Nat → Nat → Nat → Ic) (w : World) (hn200 : n ≤ 200) (HLP : Hid (P.length = n)) (HLH : Hid (H.length = hn)) (hh2 : 2 ≤ hn) (hh4 : hn ≤ 400) (hb : b < w.heap.size) (HI : Hid (IntsAt w b 0 (flat2 P)))
  (HNR : Hid (∀ X : World, Below w.heap.size w X → Calls Try.prog 27 #[.slice (some ⟨b, 0, none⟩) n cap] X fun e w' => e = .returned (.bool true) ∧ Same X w'))
  (HHU : Hid (∀ X : World, Below w.heap.size w X → Calls Try.prog 28 #[.slice (some ⟨b, 0, none⟩) n cap] X fun e w' => ∃ v, e = .returned v ∧ Row w' X.heap.size 30 2 v hn (flat2 H) ∧ Below X.heap.size X w'))
  (HF1 : Hid (∀ i (X : World), i < n → Below w.heap.size w X → Calls Try.prog 29 #[.slice (some ⟨b, 0, none⟩) n cap, .agg #[.int .i64 (ptAt P i).1, .int .i64 (ptAt P i).2]] X fun e w' => e = .returned (.int .i64 (fi P (ptAt P i) : Int)) ∧ Below X.heap.size X w'))
  (HF2 : Hid (∀ i (X : World) (hb hc : Nat), i < n → hb < X.heap.size → IntsAt X hb 0 (flat2 H) → Calls Try.prog 29 #[.slice (some ⟨hb, 0, none⟩) hn hc, .agg #[.int .i64 (ptAt P i).1, .int .i64 (ptAt P i).2]] X fun e w' => e = .returned (.int .i64 (KK i : Int)) ∧ Below X.heap.size X w'))
  (HKK : Hid (∀ i, i < n → KK i < hn)) (HA0 : Hid (A 0 = [])) (HAL : Hid (∀ i, (A i).length ≤ i))
  (HAS : Hid (∀ i, i < n → A (i + 1) = if fi P (ptAt P i) = i ∧ (decide ((ptAt H (KK i)).1 = (ptAt P i).1) && decide ((ptAt H (KK i)).2 = (ptAt P i).2)) = true then A i ++ [i] else A i))
  (HAM : Hid (∀ i ∈ A n, i < n)) (hA0 : (A n).length ≠ 0)
  (HP2 : Hid (∀ i j (X : World), i ∈ A n → j ∈ A n → Calls Try.prog 43 #[.agg #[.int .i64 (ptAt P i).1, .int .i64 (ptAt P i).2], .agg #[.int .i64 (ptAt P j).1, .int .i64 (ptAt P j).2]] X fun e w' => e = .returned (rgV 0 0 0 0 (T2 i j)) ∧ Below X.heap.size X w'))
  (HH2 : Hid (∀ i j (X : World) (hb hc : Nat), i ∈ A n → j ∈ A n → hb < X.heap.size → IntsAt X hb 0 (flat2 H) → Calls Try.prog 44 #[.slice (some ⟨hb, 0, none⟩) hn hc, rgV 0 0 0 0 (T2 i j)] X fun e w' => e = .returned (.bool (Q2 i j)) ∧ Below X.heap.size X w'))
  (HP3 : Hid (∀ i j l (X : World), i ∈ A n → j ∈ A n → l ∈ A n → Calls Try.prog 45 #[.agg #[.int .i64 (ptAt P i).1, .int .i64 (ptAt P i).2], .agg #[.int .i64 (ptAt P j).1, .int .i64 (ptAt P j).2], .agg #[.int .i64 (ptAt P l).1, .int .i64 (ptAt P l).2]] X fun e w' => e = .returned (.tuple #[rgV 0 0 0 0 (T3 i j l), .bool (TO i j l)]) ∧ Below X.heap.size X w'))
  (HH3 : Hid (∀ i j l (X : World) (hb hc : Nat), TO i j l = true → i ∈ A n → j ∈ A n → l ∈ A n → hb < X.heap.size → IntsAt X hb 0 (flat2 H) → Calls Try.prog 44 #[.slice (some ⟨hb, 0, none⟩) hn hc, rgV 0 0 0 0 (T3 i j l)] X fun e w' => e = .returned (.bool (Q3 i j l)) ∧ Below X.heap.size X w'))
  (HQ3 : Hid (∀ i j l, TO i j l = false → Q3 i j l = false)) (HNN : Hid (fp Q2 (A n) = none → ft Q3 (A n) ≠ none)) :
  Calls Try.prog 11 #[.slice (some ⟨b, 0, none⟩) n cap] w fun e w' => ∃ v, e = .returned (.tuple #[v, .int .i64 0]) ∧ Ans (A n) Q2 Q3 T2 T3 v ∧ Below w.heap.size w w' := by
 have d4 : decide ((4096 : Int) < (n : Int)) = false := decide_eq_false (by omega)
 have d5 : ¬ (4096 : Int) < (n : Int) := by omega
 have d6 : ((hn : Int) == 1) = false := beq_eq_false_iff_ne.2 (by omega)
 have d7 : ¬ (hn : Int) = 1 := by omega
 obtain ⟨iP, hi1, hy0, hy1, hy2⟩ := info_parts int_info3
 have K0 : Hid (Below w.heap.size w (w.alloc (.cells #[.int .i64 0, .int .i64 0, .int .i64 0, .int .i64 0, .int .i64 0, .int .i64 0, .int .i64 0, .int .i64 0] 34))) := hide (ba (Below.refl _ _) _)
 have R2 : Hid (cb (w.alloc (.cells #[.int .i64 0, .int .i64 0, .int .i64 0, .int .i64 0, .int .i64 0, .int .i64 0, .int .i64 0, .int .i64 0] 34)) w.heap.size 34 z8) := hide (cb_new w 34 z8 _ rfl)
 go_enter Try.func11, Try.ntmps11
 go_wp2_with fail
 generalize w.alloc (.cells #[.int .i64 0, .int .i64 0, .int .i64 0, .int .i64 0, .int .i64 0, .int .i64 0, .int .i64 0, .int .i64 0] 34) = V0 at *
 refine (zu HNR _ (zu K0)).mono ?_
 rintro e V1 ⟨rfl, hs⟩
 have K1 := hide ((zu K0).trans (hs.bel))
 have R2a : Hid (cb V1 w.heap.size 34 z8) := hide (by unfold cb; rw [hs.heap]; exact zu R2)
 clear hs K0 R2 HNR
 go_wp2_with fail
 refine (zu HHU _ (zu K1)).mono ?_
 rintro e V2 ⟨v, rfl, hr, hB2⟩
 obtain ⟨gh, ch, rfl, hg1, hg2, hri, hc1, hc2⟩ := hr.full (by omega)
 have K2 := hide (bc (zu K1) hB2)
 have R2b := hide ((zu R2a).bel hB2)
 have HHI := hide hri
 have hlw2 : w.heap.size < V2.heap.size := (zu R2b).lt
 clear hr hB2 K1 R2a hri HHU hg1
 go_wp2_with fail
 have RN0 : Hid (Row (V2.alloc (.cells #[] 3)) V2.heap.size 3 1 (.slice (some ⟨V2.heap.size, 0, none⟩) 0 0) 0 []) := hide (row_made V2 3 V2.heap.size 1 (Nat.le_refl _) V2.heap.size rfl)
 have B20 : Hid (Below V2.heap.size V2 (V2.alloc (.cells #[] 3))) := hide (ba (Below.refl _ _) _)
 generalize V2.alloc (.cells #[] 3) = V3 at *
 go_loopw [6, 7] (fun z6 z X => ∃ i : Nat, z = .int .i64 (i : Int) ∧ i ≤ n ∧ Row X V2.heap.size 3 1 z6 (A i).length (nums (A i)) ∧ Below V2.heap.size V2 X) (fun _ z _ => n - (intOf z).toNat)
 case atStart => exact ⟨0, rfl, Nat.zero_le _, by rw [zu HA0]; exact zu RN0, zu B20⟩
 case round =>
  obtain ⟨i, rfl, hi, h6, hw⟩ := hrel
  obtain ⟨ku, kc, rfl, _⟩ := h6.form
  have H6 := hide h6
  have HW := hide hw
  have KW := hide ((zu K2).trans (hw.mono (Nat.le_of_lt hlw2)))
  clear h6 hw
  by_cases h : i < n
  ·have i1 : (i : Int) < (n : Int) := by omega
   have i0 : (0 : Int) ≤ (i : Int) := Int.natCast_nonneg _
   have iz : decide ((i : Int) < (n : Int)) = true := decide_eq_true i1
   have hx := ptAt_some (L := P) (i := i) (by rw [zu HLP]; exact h)
   have HF1i := hide (fun X => zu HF1 i X h)
   have HF2i := hide (fun X hb hc => zu HF2 i X hb hc h)
   have has := zu HAS i h
   have hal := zu HAL i
   have hkk := zu HKK i h
   have hk := ptAt_some (L := H) (i := KK i) (by rw [zu HLH]; exact hkk)
   obtain ⟨⟨px, py⟩, hxy⟩ : ∃ q, ptAt P i = q := ⟨_, rfl⟩
   obtain ⟨⟨hx', hy'⟩, hhxy⟩ : ∃ q, ptAt H (KK i) = q := ⟨_, rfl⟩
   rw [hxy] at hx has HF1i HF2i
   rw [hhxy] at hk has
   obtain ⟨k, hkq⟩ : ∃ k, KK i = k := ⟨_, rfl⟩
   rw [hkq] at hk hkk HF2i
   obtain ⟨j, hj⟩ : ∃ j, fi P (px, py) = j := ⟨_, rfl⟩
   rw [hj] at has HF1i
   obtain ⟨p0, p1⟩ := pts_at ((zu HI).below (zu KW) hb) hx
   have hHw := (zu HHI).below (zu HW) hg2
   obtain ⟨q0, q1⟩ := pts_at hHw hk
   have P0 := hide p0
   have P1 := hide p1
   have Q0 := hide q0
   have Q1 := hide q1
   have HHw := hide hHw
   have hghw : gh < wr.heap.size := Nat.lt_of_lt_of_le hg2 (zu HW).size
   have HASi := hide has
   simp only at HASi
   clear hx hk hxy hhxy hkq hj has p0 p1 q0 q1 hHw
   go_wp2_with fail
   by_cases hji : j = i
   ·refine Go.Code.wp_mono (Only.to (fun _ _ h => h)) (mr14t (j := j) (k := k) (x := px) (y := py) (hx := hx') (hy := hy') hji P0 P1 Q0 Q1 (hide h) (hide fun X hX => zu HF1i X (bc (zu KW) hX)) (hide h) (hide fun X hX => zu HF2i X gh ch (Nat.lt_of_lt_of_le hghw hX.size) ((zu HHw).below hX hghw)) (hide h) (hide fun X hX => zu HF2i X gh ch (Nat.lt_of_lt_of_le hghw hX.size) ((zu HHw).below hX hghw)) (hide hkk) (hide h) (fun Wy hBy => ?_))
    have BY := hide ((zu HW).trans (hBy.mono (zu HW).size))
    have Y6 := hide ((zu H6).below hBy)
    have lY := (zu BY).size
    clear hBy H6 HW KW P0 P1 Q0 Q1 HHw HF1i HF2i
    cases hq : (decide (hx' = px) && decide (hy' = py)) with
    | true =>
     have hAi : A (i + 1) = A i ++ [i] := by rw [zu HASi, if_pos ⟨hji, hq⟩]
     have HAi := hide hAi
     have HJI := hide hji
     have HQQ := hide hq
     clear hAi hji hq HASi
     go_wp2_with (at_builtin; refine zu ?_)
     refine hide ?_
     refine wpList_append_own _ rfl _ _ 37 rfl V2.heap.size 3 iP _ 1 8 Try.underlying37 hi1 hy0 hy1 hy2 rfl (by decide) _ (A i).length ((nums (A i)).map (Value.int .i64)) rfl ((zu Y6).alloc _) _ 1 1 ([(i : Int)].map (Value.int .i64)) rfl rfl (by first | exact news_cells _ _ rfl | exact news_cells _ _ (by simp)) ints_one (by unfold maxLen; omega) (by omega) (by first | omega | (simp; omega)) ?_
     intro v1 w1 hown' hgrow _
     have R1 := own_more (wr := Wy) (news := [(i : Int)]) (by repeat (first | exact Below.refl _ _ | refine Below.alloc ?_ (by first | omega | (simp; omega)) _ | refine Below.drew ?_)) (by simp; omega) (zu Y6) hown' hgrow
     have HR1 := hide R1.1
     have KQ : Hid (Below V2.heap.size V2 w1) := hide ((zu BY).trans R1.2)
     clear hown' hgrow R1
     go_wp2_with fail
     go_roundw
     case rel =>
      have H : ∃ i' : Nat, Value.int .i64 ((i : Int) + 1) = .int .i64 (i' : Int) ∧ i' ≤ n ∧ Row w1 V2.heap.size 3 1 v1 (A i').length (nums (A i')) ∧ Below V2.heap.size V2 w1 := by
       refine ⟨i + 1, by simp, h, ?_, zu KQ⟩
       rw [zu HAi]
       have e : nums (A i ++ [i]) = nums (A i) ++ [(i : Int)] := by simp [nums]
       rw [e, List.length_append]
       exact zu HR1
      first | exact H | ((repeat apply Exists.intro); refine ⟨?_, rfl⟩; exact H)
     case measure => first | (simp only [intOf]; omega) | (simp [intOf]; omega)
    | false =>
     have hAi : A (i + 1) = A i := by rw [zu HASi, if_neg (fun q => by rw [hq] at q; exact nomatch q.2)]
     have HAi := hide hAi
     have HJI := hide hji
     have HQQ := hide hq
     clear hAi hji hq HASi
     go_wp2_with fail
     go_roundw
     case rel =>
      have H : ∃ i' : Nat, Value.int .i64 ((i : Int) + 1) = .int .i64 (i' : Int) ∧ i' ≤ n ∧ Row Wy V2.heap.size 3 1 (.slice ku (A i).length kc) (A i').length (nums (A i')) ∧ Below V2.heap.size V2 Wy := ⟨i + 1, by simp, h, by rw [zu HAi]; exact zu Y6, zu BY⟩
      first | exact H | ((repeat apply Exists.intro); refine ⟨?_, rfl⟩; exact H)
     case measure => first | (simp only [intOf]; omega) | (simp [intOf]; omega)
   ·refine Go.Code.wp_mono (Only.to (fun _ _ h => h)) (mr14f (j := j) (x := px) (y := py) hji P0 P1 (hide h) (hide fun X hX => zu HF1i X (bc (zu KW) hX)) (fun Wy hBy => ?_))
    have BY := hide ((zu HW).trans (hBy.mono (zu HW).size))
    have Y6 := hide ((zu H6).below hBy)
    have hAi : A (i + 1) = A i := by rw [zu HASi, if_neg (fun q => hji q.1)]
    have HAi := hide hAi
    have HJI := hide hji
    clear hBy H6 HW KW P0 P1 Q0 Q1 HHw HF1i HF2i hAi hji HASi
    go_wp2_with fail
    go_roundw
    case rel =>
     have H : ∃ i' : Nat, Value.int .i64 ((i : Int) + 1) = .int .i64 (i' : Int) ∧ i' ≤ n ∧ Row Wy V2.heap.size 3 1 (.slice ku (A i).length kc) (A i').length (nums (A i')) ∧ Below V2.heap.size V2 Wy := ⟨i + 1, by simp, h, by rw [zu HAi]; exact zu Y6, zu BY⟩
     first | exact H | ((repeat apply Exists.intro); refine ⟨?_, rfl⟩; exact H)
    case measure => first | (simp only [intOf]; omega) | (simp [intOf]; omega)
  ·have hin : i = n := by omega
   have i1 : ¬ (i : Int) < (n : Int) := by omega
   have iz : decide ((i : Int) < (n : Int)) = false := decide_eq_false i1
   subst hin
   obtain ⟨B, hBe⟩ : ∃ B, A i = B := ⟨_, rfl⟩
   rw [hBe] at H6 HAM hA0 HP2 HH2 HP3 HH3 HNN ⊢
   have HBE := hide hBe
   obtain ⟨nb, nc, hne, hn1, hn2, hni, hnc1, hnc2⟩ := (zu H6).full hA0
   cases hne
   have HNI := hide hni
   have hlB : B.length ≤ 200 := by rw [← hBe]; have := zu HAL i; omega
   obtain ⟨m, hm⟩ : ∃ m, B.length = m := ⟨_, rfl⟩
   rw [hm] at hA0 hnc1 hlB ⊢
   have HM := hide hm
   have R2X : Hid (cb wr w.heap.size 34 z8) := hide (((zu HW).block _ hlw2).trans (zu R2b))
   have HHX := hide ((zu HHI).below (zu HW) hg2)
   have hghX : gh < wr.heap.size := Nat.lt_of_lt_of_le hg2 (zu HW).size
   have HIX := hide ((zu HI).below (zu KW) hb)
   have hbX : b < wr.heap.size := Nat.lt_of_lt_of_le hb (zu KW).size
   have hlw : w.heap.size < wr.heap.size := (zu R2X).lt
   clear hBe hni hm H6 HAS HAL HKK HF1 HF2 HHI HI HW K2 R2b RN0 B20 HA0 HLH
   generalize wr = V4 at *
   go_wp2_with fail
   go_loopw [8] (fun z X => ∃ a : Nat, z = .int .i64 (a : Int) ∧ a ≤ m ∧ fp Q2 B = fp Q2 (B.drop a) ∧ Below V4.heap.size V4 X) (fun z _ => m - (intOf z).toNat)
   case atStart => exact ⟨0, rfl, Nat.zero_le _, rfl, Below.refl _ _⟩
   case round =>
    obtain ⟨a, rfl, ha, hfp, hw⟩ := hrel
    have HFP := hide hfp
    have HW := hide hw
    clear hfp hw
    by_cases h2 : a < m
    ·have a1 : (a : Int) < (m : Int) := by omega
     have az : decide ((a : Int) < (m : Int)) = true := decide_eq_true a1
     have a0 : (0 : Int) ≤ (a : Int) := Int.natCast_nonneg _
     have wa : IntKind.i64.wrap ((a : Int) + 1) = ((a + 1 : Nat) : Int) := (wr64 (by omega) (by omega)).trans (by omega)
     have la : a + 1 ≤ m := by omega
     obtain ⟨i, hBi⟩ : ∃ i, B[a]? = some i := ⟨_, List.getElem?_eq_getElem (by rw [zu HM]; exact h2)⟩
     have HBi := hide hBi
     have hiB := List.mem_of_getElem? hBi
     have hin := zu HAM i hiB
     clear hBi
     go_wp2_with fail
     go_loopw [9] (fun z X => ∃ c : Nat, z = .int .i64 (c : Int) ∧ a + 1 ≤ c ∧ c ≤ m ∧ (B.drop (a + 1)).find? (Q2 i) = (B.drop c).find? (Q2 i) ∧ Below V4.heap.size V4 X) (fun z _ => m - (intOf z).toNat)
     case atStart => exact ⟨a + 1, by simp, Nat.le_refl _, la, rfl, zu HW⟩
     case round =>
      obtain ⟨c, rfl, hca, hc, hfd, hw⟩ := hrel
      have HFD := hide hfd
      have JW := hide hw
      clear hfd hw HW
      by_cases h3 : c < m
      ·have c1 : (c : Int) < (m : Int) := by omega
       have cz : decide ((c : Int) < (m : Int)) = true := decide_eq_true c1
       have c0 : (0 : Int) ≤ (c : Int) := Int.natCast_nonneg _
       have wc : IntKind.i64.wrap ((c : Int) + 1) = ((c + 1 : Nat) : Int) := (wr64 (by omega) (by omega)).trans (by omega)
       obtain ⟨j, hBj⟩ : ∃ j, B[c]? = some j := ⟨_, List.getElem?_eq_getElem (by rw [zu HM]; exact h3)⟩
       have hjB := List.mem_of_getElem? hBj
       have hjn := zu HAM j hjB
       have HBj := hide hBj
       have hpi := ptAt_some (L := P) (i := i) (by rw [zu HLP]; exact hin)
       have hpj := ptAt_some (L := P) (i := j) (by rw [zu HLP]; exact hjn)
       have hIw := (zu HIX).below (zu JW) hbX
       have hNw := (zu HNI).below (zu JW) hn2
       have N0 := hide (cells_of hNw (j := a) (x := (i : Int)) (by unfold nums; rw [List.getElem?_map, zu HBi]; rfl))
       have N1 := hide (cells_of hNw (j := c) (x := (j : Int)) (by unfold nums; rw [List.getElem?_map, hBj]; rfl))
       have HC2 := hide (fun X => zu HP2 i j X hiB hjB)
       have HD2 := hide (fun X hb hc => zu HH2 i j X hb hc hiB hjB)
       obtain ⟨⟨px, py⟩, hpe⟩ : ∃ q, ptAt P i = q := ⟨_, rfl⟩
       obtain ⟨⟨qx, qy⟩, hqe⟩ : ∃ q, ptAt P j = q := ⟨_, rfl⟩
       rw [hpe] at hpi HC2
       rw [hqe] at hpj HC2
       obtain ⟨x0, x1⟩ := pts_at hIw hpi
       obtain ⟨x2, x3⟩ := pts_at hIw hpj
       have P0 := hide x0
       have P1 := hide x1
       have P2 := hide x2
       have P3 := hide x3
       obtain ⟨t2, ht2⟩ : ∃ t2, T2 i j = t2 := ⟨_, rfl⟩
       rw [ht2] at HC2 HD2
       have HT2 := hide ht2
       obtain ⟨X, Y, D, N⟩ := t2
       unfold rgV at HC2 HD2
       simp only at HC2 HD2
       have h2w : Hid (cb wr w.heap.size 34 z8) := hide (((zu JW).block _ hlw).trans (zu R2X))
       have KJ : Hid (Below w.heap.size w wr) := hide ((zu KW).trans ((zu JW).mono (Nat.le_of_lt hlw)))
       have HHw := hide ((zu HHX).below (zu JW) hghX)
       have hghw : gh < wr.heap.size := Nat.lt_of_lt_of_le hghX (zu JW).size
       have hnbw : nb < wr.heap.size := Nat.lt_of_lt_of_le hn2 (zu JW).size
       clear hBj hpi hpj hIw hNw hpe hqe x0 x1 x2 x3 ht2
       go_wp2_with fail
       refine Go.Code.wp_mono (Only.to (fun _ _ h => h)) (mr22 (X := X) (Y := Y) (D := D) (N := N) N0 P0 P1 N1 P2 P3 (hide h2) (hide hin) (hide h3) (hide hjn) (hide fun X _ => zu HC2 X) (fun g10 Wy hBy v10 g10s => ?_))
       have R10 := hide v10
       have Y2 := hide ((zu h2w).bel hBy)
       have KY := hide (bc (zu KJ) hBy)
       have JY := hide ((zu JW).trans (hBy.mono (zu JW).size))
       have HHy := hide ((zu HHw).below hBy hghw)
       have hghy : gh < Wy.heap.size := Nat.lt_of_lt_of_le hghw hBy.size
       have lg : w.heap.size < g10 := Nat.lt_of_lt_of_le (zu h2w).lt g10s
       have lnb : nb < g10 := Nat.lt_of_lt_of_le hnbw g10s
       have NY0 := hide (keep1 hBy (zu N0))
       have NY1 := hide (keep1 hBy (zu N1))
       clear v10 hBy g10s h2w KJ JW HHw N0 N1 P0 P1 P2 P3 HC2
       have c0' := (zu R10).cell (m := 0) rfl
       have c1' := (zu R10).cell (m := 1) rfl
       have c2' := (zu R10).cell (m := 2) rfl
       have c3' := (zu R10).cell (m := 3) rfl
       have c4' := (zu R10).cell (m := 4) rfl
       have c5' := (zu R10).cell (m := 5) rfl
       have c6' := (zu R10).cell (m := 6) rfl
       have c7' := (zu R10).cell (m := 7) rfl
       go_wp2_with fail
       refine (zu HD2 Wy gh ch hghy (zu HHy)).mono ?_
       rintro e Wz ⟨rfl, hBz⟩
       have RZ := hide ((zu R10).bel hBz)
       have Z2 := hide ((zu Y2).bel hBz)
       have KZ := hide (bc (zu KY) hBz)
       have JZ := hide ((zu JY).trans (hBz.mono (zu JY).size))
       have n0 := keep1 hBz (zu NY0)
       have n1 := keep1 hBz (zu NY1)
       clear c0' c1' c2' c3' c4' c5' c6' c7' hBz R10 Y2 KY JY HHy NY0 NY1 HD2
       cases hq : Q2 i j with
       | true =>
        have HRES : Hid (fp Q2 B = some (i, j)) := hide (by
         rw [zu HFP, fp_at (zu HBi), zu HFD, find_at (zu HBj), hq]
         rfl)
        have hne1 : nb ≠ g10 := by omega
        have hne2 : g10 ≠ nb := by omega
        have fz := (zu RZ).frozen
        have lz := (zu RZ).lt
        have k0 := (zu RZ).cell (m := 0) rfl
        have k1 := (zu RZ).cell (m := 1) rfl
        have k2 := (zu RZ).cell (m := 2) rfl
        clear hq
        go_upto_region 27 with fail
        have RT := hide ((((zu RZ).set 0 (.int .i64 2)).set 1 (.int .i64 (i : Int))).set 2 (.int .i64 (j : Int)))
        have R2T : Hid (cb (((Wz.setCell ⟨g10, 0, none⟩ (.int .i64 2)).setCell ⟨g10, 1, none⟩ (.int .i64 (i : Int))).setCell ⟨g10, 2, none⟩ (.int .i64 (j : Int))) w.heap.size 34 z8) := hide ((((zu Z2).ne (by omega)).ne (by omega)).ne (by omega))
        have KT : Hid (Below w.heap.size w (((Wz.setCell ⟨g10, 0, none⟩ (.int .i64 2)).setCell ⟨g10, 1, none⟩ (.int .i64 (i : Int))).setCell ⟨g10, 2, none⟩ (.int .i64 (j : Int)))) := hide (Below.setCell (Below.setCell (Below.setCell (zu KZ) (Nat.le_of_lt lg) _) (Nat.le_of_lt lg) _) (Nat.le_of_lt lg) _)
        clear RZ Z2 KZ JZ n0 n1 fz lz k0 k1 k2
        generalize ((Wz.setCell ⟨g10, 0, none⟩ (.int .i64 2)).setCell ⟨g10, 1, none⟩ (.int .i64 (i : Int))).setCell ⟨g10, 2, none⟩ (.int .i64 (j : Int)) = Wt at *
        have c0' := (zu RT).cell (m := 0) rfl
        have c1' := (zu RT).cell (m := 1) rfl
        have c2' := (zu RT).cell (m := 2) rfl
        have c3' := (zu RT).cell (m := 3) rfl
        have c4' := (zu RT).cell (m := 4) rfl
        have c5' := (zu RT).cell (m := 5) rfl
        have c6' := (zu RT).cell (m := 6) rfl
        have c7' := (zu RT).cell (m := 7) rfl
        have o0 := (zu R2T).cell (m := 0) rfl
        have o1 := (zu R2T).cell (m := 1) rfl
        have o2 := (zu R2T).cell (m := 2) rfl
        have o3 := (zu R2T).cell (m := 3) rfl
        have o4 := (zu R2T).cell (m := 4) rfl
        have o5 := (zu R2T).cell (m := 5) rfl
        have o6 := (zu R2T).cell (m := 6) rfl
        have o7 := (zu R2T).cell (m := 7) rfl
        have f2 := (zu R2T).frozen
        go_wp2_with fail
        have T := (((((((((zu R2T).set 0 (.int .i64 2)).set 1 (.int .i64 (i : Int))).set 2 (.int .i64 (j : Int))).set 3 (.int .i64 0)).set 4 (.int .i64 X)).set 5 (.int .i64 Y)).set 6 (.int .i64 D)).set 7 (.int .i64 N))
        have hBV : Below w.heap.size w ((((((((Wt.setCell ⟨w.heap.size, 0, none⟩ (.int .i64 2)).setCell ⟨w.heap.size, 1, none⟩ (.int .i64 (i : Int))).setCell ⟨w.heap.size, 2, none⟩ (.int .i64 (j : Int))).setCell ⟨w.heap.size, 3, none⟩ (.int .i64 0)).setCell ⟨w.heap.size, 4, none⟩ (.int .i64 X)).setCell ⟨w.heap.size, 5, none⟩ (.int .i64 Y)).setCell ⟨w.heap.size, 6, none⟩ (.int .i64 D)).setCell ⟨w.heap.size, 7, none⟩ (.int .i64 N)) := (Below.setCell (Below.setCell (Below.setCell (Below.setCell (Below.setCell (Below.setCell (Below.setCell (Below.setCell (zu KT) (Nat.le_refl _) _) (Nat.le_refl _) _) (Nat.le_refl _) _) (Nat.le_refl _) _) (Nat.le_refl _) _) (Nat.le_refl _) _) (Nat.le_refl _) _) (Nat.le_refl _) _)
        generalize ((((((((Wt.setCell ⟨w.heap.size, 0, none⟩ (.int .i64 2)).setCell ⟨w.heap.size, 1, none⟩ (.int .i64 (i : Int))).setCell ⟨w.heap.size, 2, none⟩ (.int .i64 (j : Int))).setCell ⟨w.heap.size, 3, none⟩ (.int .i64 0)).setCell ⟨w.heap.size, 4, none⟩ (.int .i64 X)).setCell ⟨w.heap.size, 5, none⟩ (.int .i64 Y)).setCell ⟨w.heap.size, 6, none⟩ (.int .i64 D)).setCell ⟨w.heap.size, 7, none⟩ (.int .i64 N)) = V9 at *
        have s0 := T.cell (m := 0) rfl
        have s1 := T.cell (m := 1) rfl
        have s2 := T.cell (m := 2) rfl
        have s3 := T.cell (m := 3) rfl
        have s4 := T.cell (m := 4) rfl
        have s5 := T.cell (m := 5) rfl
        have s6 := T.cell (m := 6) rfl
        have s7 := T.cell (m := 7) rfl
        have ls := T.lt
        refine bodyPost_ret (v := .tuple #[.agg #[.int .i64 2, .int .i64 (i : Int), .int .i64 (j : Int), .int .i64 0, .int .i64 X, .int .i64 Y, .int .i64 D, .int .i64 N], .int .i64 0]) (by simp [results, Try.results11, go_sem, s0, s1, s2, s3, s4, s5, s6, s7, ls]) rfl ⟨_, rfl, ⟨fun i' j' he => by rw [zu HBE, zu HRES] at he; cases he; rw [zu HT2]; rfl, fun he => by rw [zu HBE, zu HRES] at he; cases he⟩, hBV⟩
       | false =>
        have HNX : Hid ((B.drop (a + 1)).find? (Q2 i) = (B.drop (c + 1)).find? (Q2 i)) := hide (by
         rw [zu HFD, find_at (zu HBj), hq]
         rfl)
        clear n0 n1 hq
        go_wp2_with fail
        go_roundw
        case rel =>
         have H : ∃ c' : Nat, Value.int .i64 ((c : Int) + 1) = .int .i64 (c' : Int) ∧ a + 1 ≤ c' ∧ c' ≤ m ∧ (B.drop (a + 1)).find? (Q2 i) = (B.drop c').find? (Q2 i) ∧ Below V4.heap.size V4 Wz := ⟨c + 1, by simp, by omega, h3, zu HNX, zu JZ⟩
         first | exact H | ((repeat apply Exists.intro); refine ⟨?_, rfl⟩; exact H)
        case measure => first | (simp only [intOf]; omega) | (simp [intOf]; omega)
      ·have ec : c = m := by omega
       have c1 : ¬ (c : Int) < (m : Int) := by omega
       have cz : decide ((c : Int) < (m : Int)) = false := decide_eq_false c1
       have HF0 : Hid (fp Q2 B = fp Q2 (B.drop (a + 1))) := hide (by
        rw [zu HFP, fp_at (zu HBi), zu HFD]
        have h9 : B.drop c = [] := List.drop_eq_nil_of_le (by rw [zu HM]; omega)
        rw [h9]
        rfl)
       clear ec
       go_wp2_with fail
       go_roundw
       case rel =>
        have H : ∃ a' : Nat, Value.int .i64 ((a : Int) + 1) = .int .i64 (a' : Int) ∧ a' ≤ m ∧ fp Q2 B = fp Q2 (B.drop a') ∧ Below V4.heap.size V4 wr := ⟨a + 1, by simp, la, zu HF0, zu JW⟩
        first | exact H | ((repeat apply Exists.intro); refine ⟨?_, rfl⟩; exact H)
       case measure => first | (simp only [intOf]; omega) | (simp [intOf]; omega)
    ·have ea : a = m := by omega
     have a1 : ¬ (a : Int) < (m : Int) := by omega
     have az : decide ((a : Int) < (m : Int)) = false := decide_eq_false a1
     have HNO : Hid (fp Q2 B = none) := hide (by
      have h9 : B.drop a = [] := List.drop_eq_nil_of_le (by rw [zu HM]; omega)
      rw [zu HFP, h9]
      rfl)
     clear ea HFP
     go_wp2_with fail
     go_loopw [11] (fun z X => ∃ a : Nat, z = .int .i64 (a : Int) ∧ a ≤ m ∧ ft Q3 B = ft Q3 (B.drop a) ∧ Below V4.heap.size V4 X) (fun z _ => m - (intOf z).toNat)
     case atStart => exact ⟨0, rfl, Nat.zero_le _, rfl, zu HW⟩
     case round =>
      obtain ⟨a', rfl, ha', hft, hw⟩ := hrel
      have HFT := hide hft
      have TW := hide hw
      clear hft hw HW ha a1 az h2
      generalize a' = a at *
      by_cases h2 : a < m
      ·have a1 : (a : Int) < (m : Int) := by omega
       have az : decide ((a : Int) < (m : Int)) = true := decide_eq_true a1
       have a0 : (0 : Int) ≤ (a : Int) := Int.natCast_nonneg _
       have wa : IntKind.i64.wrap ((a : Int) + 1) = ((a + 1 : Nat) : Int) := (wr64 (by omega) (by omega)).trans (by omega)
       have la : a + 1 ≤ m := by omega
       obtain ⟨i, hBi⟩ : ∃ i, B[a]? = some i := ⟨_, List.getElem?_eq_getElem (by rw [zu HM]; exact h2)⟩
       have HBi := hide hBi
       have hiB := List.mem_of_getElem? hBi
       have hin := zu HAM i hiB
       clear hBi
       go_wp2_with fail
       go_loopw [12] (fun z X => ∃ c : Nat, z = .int .i64 (c : Int) ∧ a + 1 ≤ c ∧ c ≤ m ∧ fp (Q3 i) (B.drop (a + 1)) = fp (Q3 i) (B.drop c) ∧ Below V4.heap.size V4 X) (fun z _ => m - (intOf z).toNat)
       case atStart => exact ⟨a + 1, by simp, Nat.le_refl _, la, rfl, zu TW⟩
       case round =>
        obtain ⟨c, rfl, hca, hc, hfd, hw⟩ := hrel
        have HFP := hide hfd
        have UW := hide hw
        clear hfd hw TW
        by_cases h3 : c < m
        ·have c1 : (c : Int) < (m : Int) := by omega
         have cz : decide ((c : Int) < (m : Int)) = true := decide_eq_true c1
         have c0 : (0 : Int) ≤ (c : Int) := Int.natCast_nonneg _
         have wc : IntKind.i64.wrap ((c : Int) + 1) = ((c + 1 : Nat) : Int) := (wr64 (by omega) (by omega)).trans (by omega)
         have lc : c + 1 ≤ m := by omega
         obtain ⟨j, hBj⟩ : ∃ j, B[c]? = some j := ⟨_, List.getElem?_eq_getElem (by rw [zu HM]; exact h3)⟩
         have hjB := List.mem_of_getElem? hBj
         have hjn := zu HAM j hjB
         have HBj := hide hBj
         clear hBj
         go_wp2_with fail
         go_loopw [13] (fun z X => ∃ d : Nat, z = .int .i64 (d : Int) ∧ c + 1 ≤ d ∧ d ≤ m ∧ (B.drop (c + 1)).find? (Q3 i j) = (B.drop d).find? (Q3 i j) ∧ Below V4.heap.size V4 X) (fun z _ => m - (intOf z).toNat)
         case atStart => exact ⟨c + 1, by simp, Nat.le_refl _, lc, rfl, zu UW⟩
         case round =>
          obtain ⟨d, rfl, hdc, hd, hfd, hw⟩ := hrel
          have HFD := hide hfd
          have JW := hide hw
          clear hfd hw UW
          by_cases h4 : d < m
          ·have e1 : (d : Int) < (m : Int) := by omega
           have ez : decide ((d : Int) < (m : Int)) = true := decide_eq_true e1
           have e0 : (0 : Int) ≤ (d : Int) := Int.natCast_nonneg _
           have we : IntKind.i64.wrap ((d : Int) + 1) = ((d + 1 : Nat) : Int) := (wr64 (by omega) (by omega)).trans (by omega)
           obtain ⟨l, hBl⟩ : ∃ l, B[d]? = some l := ⟨_, List.getElem?_eq_getElem (by rw [zu HM]; exact h4)⟩
           have hlB' := List.mem_of_getElem? hBl
           have hln := zu HAM l hlB'
           have HBl := hide hBl
           have hpi := ptAt_some (L := P) (i := i) (by rw [zu HLP]; exact hin)
           have hpj := ptAt_some (L := P) (i := j) (by rw [zu HLP]; exact hjn)
           have hpl := ptAt_some (L := P) (i := l) (by rw [zu HLP]; exact hln)
           have hIw := (zu HIX).below (zu JW) hbX
           have hNw := (zu HNI).below (zu JW) hn2
           have N0 := hide (cells_of hNw (j := a) (x := (i : Int)) (by unfold nums; rw [List.getElem?_map, zu HBi]; rfl))
           have N1 := hide (cells_of hNw (j := c) (x := (j : Int)) (by unfold nums; rw [List.getElem?_map, zu HBj]; rfl))
           have N2 := hide (cells_of hNw (j := d) (x := (l : Int)) (by unfold nums; rw [List.getElem?_map, hBl]; rfl))
           have HC3 := hide (fun X => zu HP3 i j l X hiB hjB hlB')
           have HD3 := hide (fun X hb hc ht => zu HH3 i j l X hb hc ht hiB hjB hlB')
           have hQ3 := zu HQ3 i j l
           obtain ⟨⟨px, py⟩, hpe⟩ : ∃ q, ptAt P i = q := ⟨_, rfl⟩
           obtain ⟨⟨qx, qy⟩, hqe⟩ : ∃ q, ptAt P j = q := ⟨_, rfl⟩
           obtain ⟨⟨rx, ry⟩, hre⟩ : ∃ q, ptAt P l = q := ⟨_, rfl⟩
           rw [hpe] at hpi HC3
           rw [hqe] at hpj HC3
           rw [hre] at hpl HC3
           obtain ⟨x0, x1⟩ := pts_at hIw hpi
           obtain ⟨x2, x3⟩ := pts_at hIw hpj
           obtain ⟨x4, x5⟩ := pts_at hIw hpl
           have P0 := hide x0
           have P1 := hide x1
           have P2 := hide x2
           have P3 := hide x3
           have P4 := hide x4
           have P5 := hide x5
           obtain ⟨t3, ht3⟩ : ∃ t3, T3 i j l = t3 := ⟨_, rfl⟩
           rw [ht3] at HC3 HD3
           have HT3 := hide ht3
           obtain ⟨X, Y, D, N⟩ := t3
           unfold rgV at HC3 HD3
           simp only at HC3 HD3
           obtain ⟨ok, hok⟩ : ∃ ok, TO i j l = ok := ⟨_, rfl⟩
           rw [hok] at HC3 HD3 hQ3
           have HQ3' := hide hQ3
           have h2w : Hid (cb wr w.heap.size 34 z8) := hide (((zu JW).block _ hlw).trans (zu R2X))
           have KJ : Hid (Below w.heap.size w wr) := hide ((zu KW).trans ((zu JW).mono (Nat.le_of_lt hlw)))
           have HHw := hide ((zu HHX).below (zu JW) hghX)
           have hghw : gh < wr.heap.size := Nat.lt_of_lt_of_le hghX (zu JW).size
           have hnbw : nb < wr.heap.size := Nat.lt_of_lt_of_le hn2 (zu JW).size
           clear hBl hpi hpj hpl hIw hNw hpe hqe hre x0 x1 x2 x3 x4 x5 ht3 hok hQ3
           go_wp2_with fail
           refine Go.Code.wp_mono (Only.to (fun _ _ h => h)) (mr37 (X := X) (Y := Y) (D := D) (N := N) (ok := ok) N0 P0 P1 N1 P2 P3 N2 P4 P5 (hide h2) (hide hin) (hide h3) (hide hjn) (hide h4) (hide hln) (hide fun X _ => zu HC3 X) (fun g10 Wy hBy v10 g10s => ?_))
           have R10 := hide v10
           have Y2 := hide ((zu h2w).bel hBy)
           have KY := hide (bc (zu KJ) hBy)
           have JY := hide ((zu JW).trans (hBy.mono (zu JW).size))
           have HHy := hide ((zu HHw).below hBy hghw)
           have hghy : gh < Wy.heap.size := Nat.lt_of_lt_of_le hghw hBy.size
           have lg : w.heap.size < g10 := Nat.lt_of_lt_of_le (zu h2w).lt g10s
           have lnb : nb < g10 := Nat.lt_of_lt_of_le hnbw g10s
           have NY0 := hide (keep1 hBy (zu N0))
           have NY1 := hide (keep1 hBy (zu N1))
           have NY2 := hide (keep1 hBy (zu N2))
           clear v10 hBy g10s h2w KJ JW HHw N0 N1 N2 P0 P1 P2 P3 P4 P5 HC3
           cases ok with
           | false =>
            have hq : Q3 i j l = false := zu HQ3' rfl
            have HNX : Hid ((B.drop (c + 1)).find? (Q3 i j) = (B.drop (d + 1)).find? (Q3 i j)) := hide (by
             rw [zu HFD, find_at (zu HBl), hq]
             rfl)
            clear hq HD3
            go_wp2_with fail
            go_roundw
            case rel =>
             have H : ∃ d' : Nat, Value.int .i64 ((d : Int) + 1) = .int .i64 (d' : Int) ∧ c + 1 ≤ d' ∧ d' ≤ m ∧ (B.drop (c + 1)).find? (Q3 i j) = (B.drop d').find? (Q3 i j) ∧ Below V4.heap.size V4 Wy := ⟨d + 1, by simp, by omega, h4, zu HNX, zu JY⟩
             first | exact H | ((repeat apply Exists.intro); refine ⟨?_, rfl⟩; exact H)
            case measure => first | (simp only [intOf]; omega) | (simp [intOf]; omega)
           | true =>
            have c0' := (zu R10).cell (m := 0) rfl
            have c1' := (zu R10).cell (m := 1) rfl
            have c2' := (zu R10).cell (m := 2) rfl
            have c3' := (zu R10).cell (m := 3) rfl
            have c4' := (zu R10).cell (m := 4) rfl
            have c5' := (zu R10).cell (m := 5) rfl
            have c6' := (zu R10).cell (m := 6) rfl
            have c7' := (zu R10).cell (m := 7) rfl
            go_wp2_with fail
            refine (zu HD3 Wy gh ch (by trivial) hghy (zu HHy)).mono ?_
            rintro e Wz ⟨rfl, hBz⟩
            have RZ := hide ((zu R10).bel hBz)
            have Z2 := hide ((zu Y2).bel hBz)
            have KZ := hide (bc (zu KY) hBz)
            have JZ := hide ((zu JY).trans (hBz.mono (zu JY).size))
            have n0 := keep1 hBz (zu NY0)
            have n1 := keep1 hBz (zu NY1)
            have n2 := keep1 hBz (zu NY2)
            clear c0' c1' c2' c3' c4' c5' c6' c7' hBz R10 Y2 KY JY HHy NY0 NY1 NY2 HD3
            cases hq : Q3 i j l with
            | true =>
             have HRES : Hid (ft Q3 B = some (i, j, l)) := hide (by
              rw [zu HFT, ft_at (zu HBi), zu HFP, fp_at (zu HBj), zu HFD, find_at (zu HBl), hq]
              rfl)
             have hne1 : nb ≠ g10 := by omega
             have hne2 : g10 ≠ nb := by omega
             have fz := (zu RZ).frozen
             have lz := (zu RZ).lt
             have k0 := (zu RZ).cell (m := 0) rfl
             have k1 := (zu RZ).cell (m := 1) rfl
             have k2 := (zu RZ).cell (m := 2) rfl
             have k3 := (zu RZ).cell (m := 3) rfl
             clear hq
             go_upto_region 43 with fail
             have RT := hide (((((zu RZ).set 0 (.int .i64 3)).set 1 (.int .i64 (i : Int))).set 2 (.int .i64 (j : Int))).set 3 (.int .i64 (l : Int)))
             have R2T : Hid (cb ((((Wz.setCell ⟨g10, 0, none⟩ (.int .i64 3)).setCell ⟨g10, 1, none⟩ (.int .i64 (i : Int))).setCell ⟨g10, 2, none⟩ (.int .i64 (j : Int))).setCell ⟨g10, 3, none⟩ (.int .i64 (l : Int))) w.heap.size 34 z8) := hide (((((zu Z2).ne (by omega)).ne (by omega)).ne (by omega)).ne (by omega))
             have KT : Hid (Below w.heap.size w ((((Wz.setCell ⟨g10, 0, none⟩ (.int .i64 3)).setCell ⟨g10, 1, none⟩ (.int .i64 (i : Int))).setCell ⟨g10, 2, none⟩ (.int .i64 (j : Int))).setCell ⟨g10, 3, none⟩ (.int .i64 (l : Int)))) := hide (Below.setCell (Below.setCell (Below.setCell (Below.setCell (zu KZ) (Nat.le_of_lt lg) _) (Nat.le_of_lt lg) _) (Nat.le_of_lt lg) _) (Nat.le_of_lt lg) _)
             clear RZ Z2 KZ JZ n0 n1 n2 fz lz k0 k1 k2 k3
             generalize (((Wz.setCell ⟨g10, 0, none⟩ (.int .i64 3)).setCell ⟨g10, 1, none⟩ (.int .i64 (i : Int))).setCell ⟨g10, 2, none⟩ (.int .i64 (j : Int))).setCell ⟨g10, 3, none⟩ (.int .i64 (l : Int)) = Wt at *
             have c0' := (zu RT).cell (m := 0) rfl
             have c1' := (zu RT).cell (m := 1) rfl
             have c2' := (zu RT).cell (m := 2) rfl
             have c3' := (zu RT).cell (m := 3) rfl
             have c4' := (zu RT).cell (m := 4) rfl
             have c5' := (zu RT).cell (m := 5) rfl
             have c6' := (zu RT).cell (m := 6) rfl
             have c7' := (zu RT).cell (m := 7) rfl
             have o0 := (zu R2T).cell (m := 0) rfl
             have o1 := (zu R2T).cell (m := 1) rfl
             have o2 := (zu R2T).cell (m := 2) rfl
             have o3 := (zu R2T).cell (m := 3) rfl
             have o4 := (zu R2T).cell (m := 4) rfl
             have o5 := (zu R2T).cell (m := 5) rfl
             have o6 := (zu R2T).cell (m := 6) rfl
             have o7 := (zu R2T).cell (m := 7) rfl
             have f2 := (zu R2T).frozen
             go_wp2_with fail
             have T := (((((((((zu R2T).set 0 (.int .i64 3)).set 1 (.int .i64 (i : Int))).set 2 (.int .i64 (j : Int))).set 3 (.int .i64 (l : Int))).set 4 (.int .i64 X)).set 5 (.int .i64 Y)).set 6 (.int .i64 D)).set 7 (.int .i64 N))
             have hBV : Below w.heap.size w ((((((((Wt.setCell ⟨w.heap.size, 0, none⟩ (.int .i64 3)).setCell ⟨w.heap.size, 1, none⟩ (.int .i64 (i : Int))).setCell ⟨w.heap.size, 2, none⟩ (.int .i64 (j : Int))).setCell ⟨w.heap.size, 3, none⟩ (.int .i64 (l : Int))).setCell ⟨w.heap.size, 4, none⟩ (.int .i64 X)).setCell ⟨w.heap.size, 5, none⟩ (.int .i64 Y)).setCell ⟨w.heap.size, 6, none⟩ (.int .i64 D)).setCell ⟨w.heap.size, 7, none⟩ (.int .i64 N)) := (Below.setCell (Below.setCell (Below.setCell (Below.setCell (Below.setCell (Below.setCell (Below.setCell (Below.setCell (zu KT) (Nat.le_refl _) _) (Nat.le_refl _) _) (Nat.le_refl _) _) (Nat.le_refl _) _) (Nat.le_refl _) _) (Nat.le_refl _) _) (Nat.le_refl _) _) (Nat.le_refl _) _)
             generalize ((((((((Wt.setCell ⟨w.heap.size, 0, none⟩ (.int .i64 3)).setCell ⟨w.heap.size, 1, none⟩ (.int .i64 (i : Int))).setCell ⟨w.heap.size, 2, none⟩ (.int .i64 (j : Int))).setCell ⟨w.heap.size, 3, none⟩ (.int .i64 (l : Int))).setCell ⟨w.heap.size, 4, none⟩ (.int .i64 X)).setCell ⟨w.heap.size, 5, none⟩ (.int .i64 Y)).setCell ⟨w.heap.size, 6, none⟩ (.int .i64 D)).setCell ⟨w.heap.size, 7, none⟩ (.int .i64 N)) = V9 at *
             have s0 := T.cell (m := 0) rfl
             have s1 := T.cell (m := 1) rfl
             have s2 := T.cell (m := 2) rfl
             have s3 := T.cell (m := 3) rfl
             have s4 := T.cell (m := 4) rfl
             have s5 := T.cell (m := 5) rfl
             have s6 := T.cell (m := 6) rfl
             have s7 := T.cell (m := 7) rfl
             have ls := T.lt
             refine bodyPost_ret (v := .tuple #[.agg #[.int .i64 3, .int .i64 (i : Int), .int .i64 (j : Int), .int .i64 (l : Int), .int .i64 X, .int .i64 Y, .int .i64 D, .int .i64 N], .int .i64 0]) (by simp [results, Try.results11, go_sem, s0, s1, s2, s3, s4, s5, s6, s7, ls]) rfl ⟨_, rfl, ⟨(fun i' j' he => by rw [zu HBE, zu HNO] at he; cases he), (fun _ i' j' l' he => by rw [zu HBE, zu HRES] at he; cases he; rw [zu HT3]; rfl)⟩, hBV⟩
            | false =>
             have HNX : Hid ((B.drop (c + 1)).find? (Q3 i j) = (B.drop (d + 1)).find? (Q3 i j)) := hide (by
              rw [zu HFD, find_at (zu HBl), hq]
              rfl)
             clear n0 n1 n2 hq
             go_wp2_with fail
             go_roundw
             case rel =>
              have H : ∃ d' : Nat, Value.int .i64 ((d : Int) + 1) = .int .i64 (d' : Int) ∧ c + 1 ≤ d' ∧ d' ≤ m ∧ (B.drop (c + 1)).find? (Q3 i j) = (B.drop d').find? (Q3 i j) ∧ Below V4.heap.size V4 Wz := ⟨d + 1, by simp, by omega, h4, zu HNX, zu JZ⟩
              first | exact H | ((repeat apply Exists.intro); refine ⟨?_, rfl⟩; exact H)
             case measure => first | (simp only [intOf]; omega) | (simp [intOf]; omega)
          ·have ed : d = m := by omega
           have e1 : ¬ (d : Int) < (m : Int) := by omega
           have ez : decide ((d : Int) < (m : Int)) = false := decide_eq_false e1
           have HF0 : Hid (fp (Q3 i) (B.drop (a + 1)) = fp (Q3 i) (B.drop (c + 1))) := hide (by
            rw [zu HFP, fp_at (zu HBj), zu HFD]
            have h9 : B.drop d = [] := List.drop_eq_nil_of_le (by rw [zu HM]; omega)
            rw [h9]
            rfl)
           clear ed
           go_wp2_with fail
           go_roundw
           case rel =>
            have H : ∃ c' : Nat, Value.int .i64 ((c : Int) + 1) = .int .i64 (c' : Int) ∧ a + 1 ≤ c' ∧ c' ≤ m ∧ fp (Q3 i) (B.drop (a + 1)) = fp (Q3 i) (B.drop c') ∧ Below V4.heap.size V4 wr := ⟨c + 1, by simp, by omega, lc, zu HF0, zu JW⟩
            first | exact H | ((repeat apply Exists.intro); refine ⟨?_, rfl⟩; exact H)
           case measure => first | (simp only [intOf]; omega) | (simp [intOf]; omega)
        ·have ec : c = m := by omega
         have c1 : ¬ (c : Int) < (m : Int) := by omega
         have cz : decide ((c : Int) < (m : Int)) = false := decide_eq_false c1
         have HF0 : Hid (ft Q3 B = ft Q3 (B.drop (a + 1))) := hide (by
          rw [zu HFT, ft_at (zu HBi), zu HFP]
          have h9 : B.drop c = [] := List.drop_eq_nil_of_le (by rw [zu HM]; omega)
          rw [h9]
          rfl)
         clear ec
         go_wp2_with fail
         go_roundw
         case rel =>
          have H : ∃ a' : Nat, Value.int .i64 ((a : Int) + 1) = .int .i64 (a' : Int) ∧ a' ≤ m ∧ ft Q3 B = ft Q3 (B.drop a') ∧ Below V4.heap.size V4 wr := ⟨a + 1, by simp, la, zu HF0, zu UW⟩
          first | exact H | ((repeat apply Exists.intro); refine ⟨?_, rfl⟩; exact H)
         case measure => first | (simp only [intOf]; omega) | (simp [intOf]; omega)
      ·exfalso
       have h9 : B.drop a = [] := List.drop_eq_nil_of_le (by rw [zu HM]; omega)
       have h8 := zu HFT
       rw [h9] at h8
       exact zu HNN (zu HNO) h8
end Go.Proofs.Ytdcecfgmfmpeeaa
