/-
  Drawn holes and shafts that are right.
-/
import Derived.Test.YtmoobfbjehgdnaaMtD
import Derived.Test.YtmoobfbjehgdnaaMtCode
namespace Go.Proofs.Ytmoobfbjehgdnaa
open Go.ChangeShapes Go.WideShapes Go.ChangeAt Go.RowKit
set_option linter.unusedVariables false
set_option linter.unusedSimpArgs false

theorem Row.its {w : World} {B m : Nat} {v : Value} {F : List Int} (h : Row w B 3 1 v m F) : ∃ u g c, v = .slice u m c ∧ Its w u g 0 F := by
  have hl := h.len
  obtain ⟨u, c, hv, hf⟩ := h.form
  by_cases h0 : m = 0
  · exact ⟨u, 0, c, hv, fun hh => absurd (List.eq_nil_of_length_eq_zero (by omega)) hh⟩
  · obtain ⟨g, h1, h2, h3, h4⟩ := hf h0
    exact ⟨u, g, c, hv, fun _ => ⟨h1, h3, h4⟩⟩
theorem Mv.bel' {g : Nat} {w W w' : World} (h : Below w.heap.size w W) (m : Mv g W w') (hg : w.heap.size ≤ g) : Below w.heap.size w w' :=
  ⟨m.os.trans h.os, m.tape.trans h.tape, m.output.trans h.output, Nat.le_trans h.size m.size, fun k hk => (m.block k (Nat.lt_of_lt_of_le hk h.size) (by omega)).trans (h.block k hk)⟩
theorem mt_plain : mtC [10, 12] [9, 10] 0 2 = 0 := by
  unfold mtC
  rw [if_neg (by simp), if_pos (by decide)]
set_option maxHeartbeats 2000000 in
set_option maxRecDepth 100000 in
theorem matesOf_any (a : Option Addr) (len cap : Nat) (zs : List Int) (w : World) (hc : Code w.heap.size w a len cap zs) (hl : len ≤ 1048576) :
    Calls Try.prog 6 #[.slice a len cap] w fun e w' => ∃ (uh us : Option Addr) (gh gs ch cs : Nat) (H S : List Int) (lo hi : Int), e = .returned (.tuple #[.slice uh H.length ch, .slice us S.length cs, .int .i64 lo, .int .i64 hi]) ∧ mtC H S lo hi = 0 ∧ Its w' uh gh 0 H ∧ Its w' us gs 0 S ∧ Below w.heap.size w w' := by
  have HSO := hide (source_any a len cap zs w hc (by omega))
  clear hc
  go_enter Try.func6, Try.ntmps6
  go_wp2_with fail
  refine (unhide HSO).mono ?_
  rintro e W1 ⟨rfl, hb1, hs1⟩
  have H1 := hide hs1
  have HB1 := hide hb1
  clear hs1 hb1 HSO
  go_wp2_with fail
  go_loopw [7] (fun y W => ∃ i : Nat, y = .int .i64 (i : Int) ∧ i ≤ 3 ∧ So w.heap.size w.heap.size (2000 * (i : Int)) W ∧ Below w.heap.size w W) (fun y _ => 3 - (intOf y).toNat)
  case atStart => exact ⟨0, rfl, by omega, by simpa using unhide H1, unhide HB1⟩
  case round =>
    obtain ⟨i, rfl, hi, hso, hb⟩ := hrel
    have HMA := hide (mates_any hso (by omega))
    have HB := hide hb
    have ltW := hso.lt
    clear hso hb H1 HB1
    by_cases h : i < 3
    · have i1 : decide ((i : Int) < 3) = true := decide_eq_true (by omega)
      go_wp2_with fail
      refine (unhide HMA).mono ?_
      rintro e W2 ⟨va, vb, La, Lb, lo, hi', rfl, l1, l2, hra, hrb, hs2, mv2⟩
      obtain ⟨ua, ga, ca, rfl, hia⟩ := hra.its
      obtain ⟨ub, gb, cb, rfl, hib⟩ := hrb.its
      have HIA := hide hia
      have HIB := hide hib
      have HS2 := hide hs2
      have HB2 := hide (Mv.bel' (unhide HB) mv2 (Nat.le_refl _))
      have HC := hide (codeM_any ua ub ga 0 La.length ca gb 0 Lb.length cb La Lb lo hi' W2 rfl rfl (by omega) (by omega) hia hib)
      clear hra hrb hia hib hs2 mv2 HMA
      go_wp2_with fail
      refine (unhide HC).mono ?_
      rintro e W3 ⟨rfl, hw3⟩
      obtain rfl := hw3
      clear HC
      by_cases hz : mtC La Lb lo hi' = 0
      · have z1 : (mtC La Lb lo hi' == 0) = true := by simpa using hz
        go_wp2_with fail
        refine bodyPost_ret (v := .tuple #[.slice ua La.length ca, .slice ub Lb.length cb, .int .i64 lo, .int .i64 hi']) (by simp [results, Try.results6, go_sem]) rfl ⟨_, _, ga, gb, _, _, La, Lb, lo, hi', rfl, hz, unhide HIA, unhide HIB, unhide HB2⟩
      · have z1 : (mtC La Lb lo hi' == 0) = false := by simpa using hz
        generalize mtC La Lb lo hi' = cd at *
        go_wp2_with fail
        go_roundw
        case rel =>
          have H : ∃ i' : Nat, Value.int .i64 ((i : Int) + 1) = .int .i64 (i' : Int) ∧ i' ≤ 3 ∧ So w.heap.size w.heap.size (2000 * (i' : Int)) W3 ∧ Below w.heap.size w W3 := ⟨i + 1, by simp, h, (unhide HS2).up (by push_cast; omega), unhide HB2⟩
          first | exact H | ((repeat apply Exists.intro); refine ⟨?_, rfl⟩; exact H)
        case measure => simp only [intOf]; omega
    · have i1 : decide ((i : Int) < 3) = false := decide_eq_false (by omega)
      have K1 := hide (iblk_new wr 3 [10, 12])
      have K2 := hide (iblk_new (wr.alloc (.cells ([10, 12].map (Value.int .i64)).toArray 3)) 3 [9, 10])
      have HB2 := hide (ba (ba (unhide HB) (.cells ([10, 12].map (Value.int .i64)).toArray 3)) (.cells ([9, 10].map (Value.int .i64)).toArray 3))
      have K3 := hide ((unhide K1).bel (ba (Below.refl _ _) (.cells ([9, 10].map (Value.int .i64)).toArray 3)))
      clear HMA
      go_wp2_with fail
      refine bodyPost_ret (v := .tuple #[.slice (some ⟨wr.heap.size, 0, none⟩) 2 2, .slice (some ⟨wr.heap.size + 1, 0, none⟩) 2 2, .int .i64 0, .int .i64 2]) (by simp [results, Try.results6, go_sem]) rfl ⟨_, _, wr.heap.size, wr.heap.size + 1, _, _, [10, 12], [9, 10], 0, 2, rfl, mt_plain, fun _ => ⟨rfl, (unhide K3).lt, (unhide K3).ints⟩, fun _ => ⟨rfl, by simp, by have := (unhide K2).ints; simpa using this⟩, unhide HB2⟩
end Go.Proofs.Ytmoobfbjehgdnaa
