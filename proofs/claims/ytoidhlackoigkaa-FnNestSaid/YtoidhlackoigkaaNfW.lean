/-
  FnNest's walk: drawn plates; the program's nest and best nest are as high as the model's, lie as they should, and the plates from behind give the same.
-/
import Derived.Test.YtoidhlackoigkaaNfLi
import Derived.Test.YtoidhlackoigkaaPdA
import Derived.Test.YtoidhlackoigkaaNbPr
import Derived.Test.YtoidhlackoigkaaNsMm
import Derived.BigQuiet
namespace Go.Proofs.Ytoidhlackoigkaa
open Go.ChangeShapes Go.WideShapes Go.ChangeAt Go.RowKit
set_option linter.unusedVariables false
set_option linter.unusedSimpArgs false

/-- a row of one's own behind a world -/
structure Tn (V W : World) (r : Value) (m : Nat) (L : List Int) : Prop where
  bel : Below V.heap.size V W
  row : Row W V.heap.size 31 2 r m L
theorem Tn.al {V W : World} {r : Value} {m : Nat} {L : List Int} (h : Tn V W r m L) (o : Obj) : Tn V (W.alloc o) r m L := ⟨ba h.bel o, h.row.below (ba (Below.refl _ _) o)⟩
theorem Tn.bl {V W W' : World} {r : Value} {m : Nat} {L : List Int} (h : Tn V W r m L) (hb : Below W.heap.size W W') : Tn V W' r m L := ⟨bc h.bel hb, h.row.below hb⟩
theorem Tn.dr {V W : World} {r : Value} {m : Nat} {L : List Int} (h : Tn V W r m L) (q : Nat) : Tn V (W.drewN q) r m L := ⟨bel_dn' h.bel q, h.row.below (bel_dn' (Below.refl _ _) q)⟩
theorem Tn.ap {V W W' : World} {r r' : Value} {m : Nat} {F G : List Int} (h : Tn V W r m F) (hown : W'.ownsRow V.heap.size 31 2 r' (m + 1) (F.map (Value.int .i64) ++ G.map (Value.int .i64))) (hgr : W.grownBy W' r.ownBlock) : Tn V W' r' (m + 1) (F ++ G) :=
  ⟨h.bel.trans ⟨hgr.os, hgr.tape, hgr.output, hgr.size, fun k hk => hgr.block k (Nat.lt_of_lt_of_le hk h.bel.size) (fun e => by have := (h.row.lt k e.symm).1; omega)⟩, by unfold Row; rw [List.map_append]; exact hown⟩
theorem code_rev {Wd : Int} {P : List Pl} : nsCode Wd P.reverse = nsCode Wd P := by
  unfold nsCode
  rw [List.length_reverse, List.all_reverse, List.any_reverse]
theorem arP_bd {P : List Pl} (h : ∀ p ∈ P, (1 ≤ p.w ∧ p.w ≤ 1000) ∧ 1 ≤ p.h ∧ p.h ≤ 1000) : 0 ≤ arP P ∧ arP P ≤ 1000000 * (P.length : Int) := by
  induction P with
  | nil => simp [arP]
  | cons p P ih =>
    have hb := h p (by simp)
    have := ih (fun q hq => h q (by simp [hq]))
    have h1 : 0 ≤ p.w * p.h := Int.mul_nonneg (by omega) (by omega)
    have h2 : p.w * p.h ≤ 1000 * 1000 := Int.mul_le_mul hb.1.2 hb.2.2 (by omega) (by omega)
    simp only [arP, List.length_cons]
    push_cast
    omega
theorem flatP_app (A B : List Pl) : flatP (A ++ B) = flatP A ++ flatP B := by simp [flatP]
set_option maxHeartbeats 8000000 in
set_option maxRecDepth 100000 in
theorem fnNest_core (a : Option Addr) (len cap : Nat) (zs : List Int) (w : World) (hlen : len ≤ 1048576) (hcode : Code w.heap.size w a len cap zs) :
    Calls Try.prog 3 #[.slice a len cap] w fun e w' => e = .returned (.bool true) ∧ Below w.heap.size w w' := by
  have HPO := hide (platesOf_any a len cap zs w hcode (by omega))
  have lz : decide ((1048576 : Int) < (len : Int)) = false := decide_eq_false (by omega)
  obtain ⟨iP, hi1, hp0, hp1, hp2⟩ := info_parts pl_info'
  clear hcode
  go_enter Try.func3, Try.ntmps3
  go_wp2_with fail
  refine (unhide HPO).mono ?_
  rintro e V ⟨Wd, r, n, P, rfl, hbV, hrow, hP, hn4, hc⟩
  obtain ⟨ua, ca, rfl, _⟩ := hrow.form
  obtain ⟨pp, hpl⟩ := hrow.pls
  obtain ⟨⟨wd0, wd1⟩, _, hpb, hfit⟩ := code_good hc
  have HPL := hide (fun X (hX : Below V.heap.size V X) => hpl.bel hX)
  have HBV := hide hbV
  have HC := hide hc
  have HPB := hide hpb
  have HFT := hide hfit
  have HP := hide hP
  have n0 : (0 : Int) ≤ (n : Int) := Int.natCast_nonneg _
  clear hbV hrow hpl hc hpb hfit HPO
  have HN1 := hide (fun X (hX : Below V.heap.size V X) => nsP_good Wd ua pp 0 n ca P X hP (unhide HPL X hX) (unhide HC))
  have HN2 := hide (fun X (hX : Below V.heap.size V X) => nsM_good Wd ua pp 0 n ca P X hP (unhide HPL X hX) (unhide HC))
  have HN3 := hide (fun X (hX : Below V.heap.size V X) => nbP_good Wd ua pp 0 n ca P X hP (unhide HPL X hX) (unhide HC) (by omega))
  have HN4 := hide (fun X (hX : Below V.heap.size V X) => nbM_good Wd ua pp 0 n ca P X hP (unhide HPL X hX) (unhide HC) (by omega))
  clear hP
  go_wp2_with fail
  refine (unhide HN1 _ (Below.refl _ _)).mono ?_
  rintro e W1 ⟨⟨g1, L, rfl, hv1, _, hst, hfo, hnear⟩, hb1⟩
  have HV1 := hide hv1
  have HB := hide hb1
  have HST := hide hst
  have HFO := hide hfo
  clear hv1 hb1 hst hfo HN1
  go_wp2_with fail
  refine (unhide HN2 _ (unhide HB)).mono ?_
  rintro e W2 ⟨⟨v2, L2, rfl, _, hst2, hfo2⟩, hb2⟩
  obtain rfl := nst_uniq (unhide HST) hst2 (unhide HFO) hfo2
  have HV1 := hide ((unhide HV1).bel hb2)
  have HB := hide (bc (unhide HB) hb2)
  clear hst2 hfo2 hb2 HN2
  go_wp2_with fail
  refine (unhide HN3 _ (unhide HB)).mono ?_
  rintro e W3 ⟨⟨g3, L3, rfl, hv3, _, hl3, hbs⟩, hb3⟩
  have HV1 := hide ((unhide HV1).bel hb3)
  have HV3 := hide hv3
  have HB := hide (bc (unhide HB) hb3)
  have HBS := hide hbs
  have HL3 := hide hl3
  clear hv3 hb3 hbs hl3
  go_wp2_with fail
  refine (unhide HN4 _ (unhide HB)).mono ?_
  rintro e W4 ⟨⟨v4, L4, rfl, _, hbs4⟩, hb4⟩
  obtain rfl : L3 = L4 := Option.some.inj ((unhide HBS).symm.trans hbs4)
  have HV1 := hide ((unhide HV1).bel hb4)
  have HV3 := hide ((unhide HV3).bel hb4)
  have HB := hide (bc (unhide HB) hb4)
  clear hbs4 hb4 HN4
  have hQ := plan_whole (unhide HFT)
  have eL := nestOf_eq (unhide HST) (unhide HFO)
  have HLI1 : Hid (Lie Wd P L) := hide (by rw [← eL]; exact lie_of (unhide HC) hQ)
  have hBS' : bst Wd none (ol Wd P P.length []) = some L3 := by rw [unhide HP]; exact unhide HBS
  have HLI3 : Hid (Lie Wd P L3) := hide (by
    rcases bst_in _ _ hBS' with h1 | ⟨Q, hQ', e⟩
    · cases h1
    · rw [e]; exact lie_of (unhide HC) (whole_iff.1 hQ'))
  have lowhigh : hgtOf L3 ≤ hgtOf L := by
    have := (bst_le _ _ hBS').2 _ (whole_iff.2 hQ)
    rwa [eL] at this
  have har := lie_area (unhide HC) (unhide HLI3)
  have hbd3 := hgtOf_bd (unhide HLI3).near
  have HREV := hide (fun L' (h : bst Wd none (ol Wd P.reverse n []) = some L') => best_rev hBS' (L' := L') (by rw [List.length_reverse, unhide HP]; exact h))
  have HA1 := hide (fun X (hX : Below V.heap.size V X) (hv : vb X g1 61 (flatG spC L)) => lies_any Wd ua (some ⟨g1, 0, none⟩) pp g1 n ca n P L X wd1 (unhide HP) (by omega) (unhide HLI1) (unhide HPL X hX) (fun _ => ⟨rfl, hv.lt, hv.atG spC_len⟩))
  have HA3 := hide (fun X (hX : Below V.heap.size V X) (hv : vb X g3 61 (flatG spC L3)) => lies_any Wd ua (some ⟨g3, 0, none⟩) pp g3 n ca n P L3 X wd1 (unhide HP) (by omega) (unhide HLI3) (unhide HPL X hX) (fun _ => ⟨rfl, hv.lt, hv.atG spC_len⟩))
  have hl3 : (L3.length : Int) = (n : Int) := by have := unhide HL3; omega
  generalize hgtOf L = H1 at *
  generalize hgtOf L3 = H3 at *
  clear HST HFO hQ eL hBS' HLI1 HLI3 hnear
  have s0 : (H1 != H1) = false := by simp
  have s1 : (H3 != H3) = false := by simp
  have s2 : decide (H1 < H3) = false := decide_eq_false (by omega)
  have s3 : (H3 == H3) = true := by simp
  go_wp2_with fail
  refine (unhide HA1 _ (unhide HB) (unhide HV1)).mono ?_
  rintro e W5 ⟨rfl, hb5⟩
  have HV3 := hide ((unhide HV3).bel hb5)
  have HB := hide (bc (unhide HB) hb5)
  clear hb5 HA1 HV1
  go_wp2_with fail
  refine (unhide HA3 _ (unhide HB) (unhide HV3)).mono ?_
  rintro e W6 ⟨rfl, hb6⟩
  have HB := hide (bc (unhide HB) hb6)
  clear hb6 HA3 HV3
  have HT : Hid (Tn V (W6.alloc (.cells #[] 31)) (.slice (some ⟨W6.heap.size, 0, none⟩) 0 0) 0 (flatP [])) := hide ⟨ba (unhide HB) _, row_made W6 31 V.heap.size 2 (unhide HB).size _ rfl⟩
  have HD : Hid (P.drop n = []) := hide (by rw [List.drop_eq_nil_iff]; have := unhide HP; omega)
  have wn : IntKind.i64.wrap ((n : Int) - 1) = (n : Int) - 1 := wrap_i (by omega) (by omega)
  go_wp2_with fail
  go_loopw [17, 18, 19] (fun ar t s W => ∃ (j : Nat) (x : Int), s = .int .i64 x ∧ x = (j : Int) - 1 ∧ j ≤ n ∧ ar = .int .i64 (arP (P.drop j)) ∧ Tn V W t (n - j) (flatP (P.drop j).reverse)) (fun _ _ s _ => (intOf s + 1).toNat)
  case atStart => exact ⟨n, _, rfl, rfl, Nat.le_refl _, by rw [unhide HD]; rfl, by rw [unhide HD, Nat.sub_self]; exact unhide HT⟩
  case round =>
    obtain ⟨j, x, rfl, hx, hj, rfl, hT⟩ := hrel
    have HT := hide hT
    clear hT
    obtain ⟨ta, tc, hta, _⟩ := (unhide HT).row.form
    subst hta
    cases j with
    | succ q =>
      obtain rfl : x = (q : Int) := by omega
      clear hx
      have q1 : (q : Int) < (n : Int) := by omega
      have q0 : (0 : Int) ≤ (q : Int) := Int.natCast_nonneg _
      have qz : decide ((0 : Int) ≤ (q : Int)) = true := decide_eq_true q0
      obtain ⟨p, hp⟩ := get_some (unhide HP) (show q < n by omega)
      have hpp := unhide HPB p (List.mem_of_getElem? hp)
      obtain ⟨rfl, pw, c0, c1⟩ := (unhide HPL _ (unhide HT).bel).at hp
      simp only [Nat.zero_add] at c0 c1
      have hdr : P.drop q = p :: P.drop (q + 1) := by
        obtain ⟨h1, h2⟩ := List.getElem?_eq_some_iff.1 hp
        rw [← h2]
        exact List.drop_eq_getElem_cons h1
      have hab := arP_bd (P := P.drop (q + 1)) (fun p hp => unhide HPB p (List.mem_of_mem_drop hp))
      have hdl : ((P.drop (q + 1)).length : Int) ≤ 4 := by rw [List.length_drop]; have := unhide HP; omega
      have m1 : 0 ≤ p.w * p.h := Int.mul_nonneg (by omega) (by omega)
      have m2 : p.w * p.h ≤ 1000 * 1000 := Int.mul_le_mul hpp.1.2 hpp.2.2 (by omega) (by omega)
      have wm : IntKind.i64.wrap (p.w * p.h) = p.w * p.h := wrap_i (by omega) (by omega)
      have wa : IntKind.i64.wrap (arP (P.drop (q + 1)) + p.w * p.h) = arP (P.drop (q + 1)) + p.w * p.h := wrap_i (by omega) (by omega)
      have wq : IntKind.i64.wrap ((q : Int) - 1) = (q : Int) - 1 := wrap_i (by omega) (by omega)
      have HAR : Hid (arP (P.drop (q + 1)) + p.w * p.h = arP (P.drop q)) := hide (by rw [hdr]; rfl)
      have HFL : Hid (flatP (P.drop (q + 1)).reverse ++ [p.w, p.h] = flatP (P.drop q).reverse) := hide (by rw [hdr, List.reverse_cons, flatP_app]; rfl)
      generalize arP (P.drop (q + 1)) = A at *
      clear hp hdr hab hdl
      go_wp2_with fail
      go_region
      go_wp2_with (at_builtin; refine unhide ?_)
      refine hide ?_
      refine wpList_append_new _ rfl _ _ 23 rfl V.heap.size 31 iP _ 2 16 Try.underlying23 hi1 hp0 hp1 hp2 rfl (by decide) _ _ _ rfl ((unhide HT).row.below (by repeat (first | exact Below.refl _ _ | refine ba ?_ _ | refine Below.drew ?_ | refine bel_dn' ?_ _))) _ 1 1 ([p.w, p.h].map (Value.int .i64)) rfl rfl (by first | exact news_cells _ _ rfl | exact news_cells _ _ (by simp) | exact news_drew _ _ rfl | exact news_drew _ _ (by simp)) ints_one (by unfold maxLen; omega) (by omega) (by have := (unhide HT).bel.size; first | omega | (simp; omega)) ?_
      intro ra' wza hown' hgrow _ _
      have HT3 := hide (Tn.ap (G := [p.w, p.h]) ((unhide HT).bl (by repeat (first | exact Below.refl _ _ | refine ba ?_ _ | refine Below.drew ?_ | refine bel_dn' ?_ _))) hown' hgrow)
      clear hown' hgrow c0 c1
      go_wp2_with fail
      go_roundw
      case rel =>
        have R : ∃ (j : Nat) (x : Int), (Value.int .i64 ((q : Int) - 1)) = .int .i64 x ∧ x = (j : Int) - 1 ∧ j ≤ n ∧ (Value.int .i64 (A + p.w * p.h)) = .int .i64 (arP (P.drop j)) ∧ Tn V wza ra' (n - j) (flatP (P.drop j).reverse) :=
          ⟨q, _, rfl, rfl, by omega, by rw [unhide HAR], by rw [← unhide HFL, show n - q = n - (q + 1) + 1 by omega]; exact unhide HT3⟩
        first | exact R | (refine ⟨?_, rfl⟩; exact R) | ((repeat apply Exists.intro); refine ⟨?_, rfl⟩; exact R)
      case measure => first | (simp only [intOf]; omega) | (simp [intOf]; omega)
    | zero =>
      obtain rfl : x = -1 := by omega
      have HTr := hide (show Tn V wr (.slice ta n tc) n (flatP P.reverse) from unhide HT)
      clear HT
      obtain ⟨pt, hpt⟩ := (unhide HTr).row.pls
      have HN9 := hide (nbP_good Wd ta pt 0 n tc P.reverse wr (by rw [List.length_reverse]; exact unhide HP) hpt (by rw [code_rev]; exact unhide HC) (by omega))
      rw [List.drop_zero]
      have hab := arP_bd (P := P) (unhide HPB)
      have hPl : (P.length : Int) = (n : Int) := by have := unhide HP; omega
      have t1 : 0 ≤ H3 * Wd := Int.mul_nonneg (by omega) (by omega)
      have t2 : H3 * Wd ≤ 5000 * 1000 := Int.mul_le_mul (by omega) wd1 (by omega) (by omega)
      have wm : IntKind.i64.wrap (H3 * Wd) = H3 * Wd := wrap_i (by omega) (by omega)
      generalize arP P = AP at *
      have zz : decide (AP ≤ H3 * Wd) = true := decide_eq_true har
      have nz : decide ((0 : Int) ≤ -1) = false := rfl
      clear hpt hx
      go_wp2_with fail
      refine (unhide HN9).mono ?_
      rintro e W9 ⟨⟨g9, L9, rfl, _, _, _, hbs9⟩, hb9⟩
      rw [unhide HREV L9 hbs9]
      have HB9 := hide (bc ((unhide HBV).trans ((unhide HTr).bel.mono (unhide HBV).size)) hb9)
      clear hbs9 hb9 HN9
      go_wp2_with fail
      go_ret
      exact ⟨rfl, unhide HB9⟩
end Go.Proofs.Ytoidhlackoigkaa
