/-
  The program's Depends answers as the model at every list of features, right or not, and at every name; it changes none; its names lie in memory of their own.
-/
import Derived.Test.YtbenhicdhiichaaDpM
import Derived.Test.YtbenhicdhiichaaFtRows
import Derived.Test.YtbenhicdhiichaaFtTo
import Derived.Test.YtbenhicdhiichaaFtSz
import Derived.Test.YtbenhicdhiichaaFtMark
import Derived.Test.YtbenhicdhiichaaFtOpen
import Derived.Test.YtbenhicdhiichaaChecked
import Derived.Test.YtbenhicdhiichaaRows
import Derived.ChangeOld
import Derived.ChangeMaps5
import Derived.Lib.SmallJoins
namespace Go.Proofs.Ytbenhicdhiichaa
open Go.ChangeShapes Go.WideShapes Go.ChangeAt Go.RowKit Go.Joins
set_option linter.unusedVariables false
set_option linter.unusedSimpArgs false

theorem SRow.keep {w w' : World} {B M : Nat} {v : Value} {l : List ByteArray} (h : SRow w B v l) (hM : w.heap.size ≤ M) (hb : Below M w w') : SRow w' B v l := own_kept h (fun g hg => hb.block g (Nat.lt_of_lt_of_le (own_ge h g hg).2 hM))
theorem SRow.mw {w w' : World} {B g : Nat} {v : Value} {l : List ByteArray} (h : SRow w B v l) (hm : Mw g w w') (hg : g < B) : SRow w' B v l := own_kept h (fun k hk => hm.block k (own_ge h k hk).2 (by have := (own_ge h k hk).1; omega))

set_option maxHeartbeats 8000000 in
set_option maxRecDepth 100000 in
theorem fnExactDepends_core (u : Option Addr) (n cap p po m1 : Nat) (fs : List Ft) (s : ByteArray) (X : List ByteArray) (C : Int) (w : World) (hX : X.length = m1) (hm1 : m1 ≤ 4096) (hss : s.size ≤ 1048576) (hnn : n ≤ 1048576) (HL : Hid (fs.length = n))
    (HSZ : Hid (Calls Try.prog 5 #[.slice u n cap, .int .i64 1048576] w fun e w' => (∃ r : Int, e = .returned (.int .i64 r)) ∧ Below w.heap.size w w'))
    (HT : Hid (∀ (W : World), Below w.heap.size w W → Calls Try.prog 7 #[.slice u n cap] W fun e w' => (∃ g, e = .returned (.slice (some ⟨g, 0, none⟩) n n) ∧ W.heap.size ≤ g ∧ vb w' g 49 (flatG ftc fs)) ∧ Below W.heap.size W w'))
    (HM : Hid (∀ (g : Nat) (W : World), vb W g 49 (flatG ftc fs) → Calls Try.prog 14 #[.slice (some ⟨g, 0, none⟩) n n, .string s] W fun e w' => (∃ a k, e = .returned (.tuple #[.slice a m1 k, .int .i64 C]) ∧ SRow w' W.heap.size (.slice a m1 k) X) ∧ Below W.heap.size W w'))
    (HP : Hid (∀ (g : Nat) (W : World), vb W g 49 (flatG ftc fs) → Calls Try.prog 15 #[.slice (some ⟨g, 0, none⟩) n n, .string s] W fun e w' => (∃ a k, e = .returned (.tuple #[.slice a m1 k, .int .i64 C]) ∧ SRow w' W.heap.size (.slice a m1 k) X) ∧ Below W.heap.size W w')) :
    Calls Try.prog 4 #[.slice u n cap, .string s] w fun e w' => e = .returned (.bool true) ∧ Below w.heap.size w w' := by
  have HE := hide (fun (g g' : Nat) (W : World) (hg : vb W g 49 (flatG ftc fs)) (hg' : vb W g' 49 (flatG ftc fs)) => ft_same (some ⟨g, 0, none⟩) (some ⟨g', 0, none⟩) g 0 g' 0 n n n fs W (unhide HL) (by omega) (hg.slG ftc_len) (hg'.slG ftc_len))
  have HX := hide hX
  have cc : (C != C) = false := by simp
  have d1 : decide ((1048576 : Int) < (s.size : Int)) = false := decide_eq_false (by omega)
  have HSX := hide (fun (a b : Option Addr) (k j : Nat) (W : World) (ha : StAt W a X) (hb : StAt W b X) => st_same a b m1 k j X W hX (by omega) ha hb)
  have HFL := hide (flatG_len ftc_len fs)
  clear hX
  go_enter Try.func4, Try.ntmps4
  go_wp2_with fail
  refine (unhide HSZ).mono ?_
  rintro e W0 ⟨⟨r, rfl⟩, hb⟩
  have HB0 := hide hb
  clear hb HSZ
  by_cases hz : r < 0
  · have t : decide (r < 0) = true := decide_eq_true hz
    go_wp2_with fail
    go_ret
    exact ⟨rfl, unhide HB0⟩
  have t : decide (r < 0) = false := decide_eq_false hz
  go_wp2_with fail
  refine (unhide HT _ (unhide HB0)).mono ?_
  rintro e W1 ⟨⟨g1, rfl, hg1, hk1⟩, hb1⟩
  have HB1 := hide (bc (unhide HB0) hb1)
  have HK1 := hide hk1
  clear hb1 hk1 hg1
  go_wp2_with fail
  refine (unhide HM _ _ (unhide HK1)).mono ?_
  rintro e W2 ⟨⟨a1, k1, rfl, hs1⟩, hb2⟩
  have HB2 := hide (bc (unhide HB1) hb2)
  have HM1 := hide hs1
  clear hb2 hs1 HM
  have HMX : Hid (∀ W, Below W2.heap.size W2 W → StAt W a1 X) := hide (fun W h => ((unhide HM1).keep (Nat.le_refl _) h).stAt.2)
  go_wp2_with fail
  refine (unhide HT _ (unhide HB2)).mono ?_
  rintro e W3 ⟨⟨g2, rfl, hg2, hk2⟩, hb3⟩
  have HB3 := hide (bc (unhide HB2) hb3)
  have HD3 := hide hb3
  have HK2 := hide hk2
  have HG2 := hide hg2
  have HG2l := hide hk2.lt
  clear hb3 hk2 hg2
  go_wp2_with fail
  refine (unhide HP _ _ (unhide HK2)).mono ?_
  rintro e W4 ⟨⟨a2, k2, rfl, hs1⟩, hb4⟩
  have HB4 := hide (bc (unhide HB3) hb4)
  have HD4 := hide (bc (unhide HD3) hb4)
  have HK4 := hide ((unhide HK2).bel hb4)
  have HP4 := hide hs1
  have HQ4 := hide hb4.size
  clear hb4 hs1
  go_wp2_with fail
  refine (unhide HSX a2 a1 k2 k1 _ (unhide HP4).stAt.2 (unhide HMX _ (unhide HD4))).mono ?_
  rintro e W5 ⟨rfl, hb⟩
  have HB5 := hide (bc (unhide HB4) hb)
  have HD5 := hide ((unhide HD4).trans (hb.mono (unhide HD4).size))
  have HP5 := hide ((unhide HP4).bel hb)
  have HQ5 := hide (Nat.le_trans (unhide HQ4) hb.size)
  have HK5 := hide ((unhide HK4).bel hb)
  clear hb
  go_wp2_with fail
  refine (unhide HT _ (unhide HB5)).mono ?_
  rintro e W6 ⟨⟨g3, rfl, hg3, hk3⟩, hb⟩
  have HKq := hide hk3
  clear hk3 hg3
  have HB6 := hide (bc (unhide HB5) hb)
  have HD6 := hide ((unhide HD5).trans (hb.mono (unhide HD5).size))
  have HP6 := hide ((unhide HP5).bel hb)
  have HQ6 := hide (Nat.le_trans (unhide HQ5) hb.size)
  have HK6 := hide ((unhide HK5).bel hb)
  clear hb
  go_wp2_with fail
  refine (unhide HE _ _ _ (unhide HK6) (unhide HKq)).mono ?_
  rintro e W7 ⟨rfl, hb⟩
  have HB7 := hide (bc (unhide HB6) hb)
  have HD7 := hide ((unhide HD6).trans (hb.mono (unhide HD6).size))
  have HP7 := hide ((unhide HP6).bel hb)
  have HQ7 := hide (Nat.le_trans (unhide HQ6) hb.size)
  have HK7 := hide ((unhide HK6).bel hb)
  clear hb
  go_wp2_with fail
  refine (ft_mark (some ⟨g2, 0, none⟩) g2 n n 1 (flatG ftc fs) _ (by rw [unhide HFL, unhide HL]) hnn (by omega) (by omega) rfl (unhide HK7)).mono ?_
  rintro e W8 ⟨rfl, hmw⟩
  have t2 : decide (((1 : Nat) : Int) + 15 * (n : Int) < 0) = false := decide_eq_false (by omega)
  have t2b : decide ((1 : Int) + 15 * (n : Int) < 0) = false := decide_eq_false (by omega)
  have HB8 : Hid (Below w.heap.size w W8) := hide ((unhide HB7).trans (hmw.below (Nat.le_trans (unhide HB2).size (unhide HG2)) (unhide HB7).size))
  have HD8 : Hid (Below W2.heap.size W2 W8) := hide ((unhide HD7).trans (hmw.below (unhide HG2) (unhide HD7).size))
  have HP8 := hide ((unhide HP7).mw hmw (unhide HG2l))
  have HQ8 := hide (Nat.le_trans (unhide HQ7) hmw.size)
  clear hmw
  go_wp2_with fail
  refine (unhide HSX a2 a1 k2 k1 _ (unhide HP8).stAt.2 (unhide HMX _ (unhide HD8))).mono ?_
  rintro e W9 ⟨rfl, hb⟩
  have HB9 := hide (bc (unhide HB8) hb)
  have HD9 := hide ((unhide HD8).trans (hb.mono (unhide HD8).size))
  have HP9 := hide ((unhide HP8).bel hb)
  have HQ9 := hide (Nat.le_trans (unhide HQ8) hb.size)
  clear hb
  go_wp2_with fail
  refine (st_mark a2 W3.heap.size m1 k2 1 X _ (unhide HX) (by omega) (by omega) (by omega) (unhide HP9)).mono ?_
  rintro e W10 ⟨rfl, hsm, hz0, hz1⟩
  have hb10 : Below W3.heap.size W9 W10 := by
    by_cases h0 : m1 = 0
    · rw [hz0 h0]; exact Below.refl _ _
    · obtain ⟨g, _, hg, hmw⟩ := hz1 h0
      exact hmw.below hg (unhide HQ9)
  have HB10 := hide ((unhide HB9).trans (hb10.mono (unhide HB3).size))
  have HD10 := hide ((unhide HD9).trans (hb10.mono (unhide HD3).size))
  have HQ10 := hide (Nat.le_trans (unhide HQ9) hb10.size)
  have HP10 := hide hsm
  clear hsm hz0 hz1 hb10
  have t3 : decide (((1 : Nat) : Int) + (m1 : Int) < 0) = false := decide_eq_false (by omega)
  have t3b : decide ((1 : Int) + (m1 : Int) < 0) = false := decide_eq_false (by omega)
  have t4 : ((1 : Int) + (m1 : Int) != 1 + (m1 : Int)) = false := by simp
  go_wp2_with fail
  refine (st_held a2 m1 k2 1 _ (by omega) (by omega) (by omega) (unhide HP10).stAt.2).mono ?_
  rintro e W11 ⟨rfl, hb⟩
  have HB11 := hide (bc (unhide HB10) hb)
  have HD11 := hide ((unhide HD10).trans (hb.mono (unhide HD10).size))
  have HP11 := hide ((unhide HP10).bel hb)
  have HQ11 := hide (Nat.le_trans (unhide HQ10) hb.size)
  clear hb
  go_wp2_with fail
  refine (unhide HT _ (unhide HB11)).mono ?_
  rintro e W12 ⟨⟨g4, rfl, hg4, hk4⟩, hb⟩
  have HKr := hide hk4
  clear hk4 hg4
  have HB12 := hide (bc (unhide HB11) hb)
  have HD12 := hide ((unhide HD11).trans (hb.mono (unhide HD11).size))
  have HP12 := hide ((unhide HP11).bel hb)
  have HQ12 := hide (Nat.le_trans (unhide HQ11) hb.size)
  clear hb
  go_wp2_with fail
  refine (unhide HP _ _ (unhide HKr)).mono ?_
  rintro e W13 ⟨⟨a3, k3, rfl, hs1⟩, hb⟩
  have HR1 := hide hs1
  clear hs1
  have HB13 := hide (bc (unhide HB12) hb)
  have HD13 := hide ((unhide HD12).trans (hb.mono (unhide HD12).size))
  have HP13 := hide ((unhide HP12).bel hb)
  have HQ13 := hide (Nat.le_trans (unhide HQ12) hb.size)
  clear hb
  go_wp2_with fail
  refine (unhide HSX a3 a1 k3 k1 _ (unhide HR1).stAt.2 (unhide HMX _ (unhide HD13))).mono ?_
  rintro e W14 ⟨rfl, hb⟩
  have HB14 := hide (bc (unhide HB13) hb)
  have HD14 := hide ((unhide HD13).trans (hb.mono (unhide HD13).size))
  have HP14 := hide ((unhide HP13).bel hb)
  have HQ14 := hide (Nat.le_trans (unhide HQ13) hb.size)
  clear hb
  go_wp2_with fail
  refine (st_held a2 m1 k2 1 _ (by omega) (by omega) (by omega) (unhide HP14).stAt.2).mono ?_
  rintro e W15 ⟨rfl, hb⟩
  have HB15 := hide (bc (unhide HB14) hb)
  have HD15 := hide ((unhide HD14).trans (hb.mono (unhide HD14).size))
  have HP15 := hide ((unhide HP14).bel hb)
  have HQ15 := hide (Nat.le_trans (unhide HQ14) hb.size)
  clear hb
  go_wp2_with fail
  go_ret
  exact ⟨rfl, unhide HB15⟩

theorem Chk_ex (fs : List Ft) : ∃ c ab, Chk fs c ab ∧ ab.length ≤ 4096 ∧ (c = 0 → ab = []) := by
  by_cases h1 : 4096 < fs.length
  · exact ⟨2, [], chk_long h1, by simp, fun _ => rfl⟩
  by_cases h2 : 30 < fs.length
  · exact ⟨10, [], chk_many h1 h2, by simp, fun _ => rfl⟩
  cases h3 : fs.find? fun f => !ftr f with
  | some f => exact ⟨1, _, chk_bad h2 h3, by simp, fun h => by cases h⟩
  | none =>
    cases h4 : twi fs with
    | some f => exact ⟨7, _, chk_twice h2 h3 h4, by simp, fun h => by cases h⟩
    | none =>
      cases h5 : fs.find? fun f => (wrg fs f).isSome with
      | some f => exact ⟨6, _, chk_name h2 h3 h4 h5, by simp, fun h => by cases h⟩
      | none =>
        obtain ⟨b, hb⟩ := Bst_ex (sc (nms fs)) fs.length
        have hone := nms_one (fun f hf => by have := find_not h3 hf; simpa using this) (fun f hf => by have := find_not h5 hf; simpa using this)
        refine ⟨_, _, chk_end h2 h3 h4 h5 hb, ?_, ?_⟩
        · rw [List.length_map]
          have := hb.len hone (by rw [nms_len]; exact Nat.le_refl _)
          rw [nms_len] at this
          omega
        · intro h
          by_cases e : b = []
          · rw [e]; rfl
          · rw [if_neg e] at h; cases h
theorem srow_form {w : World} {B : Nat} {v : Value} {l : List ByteArray} (h : SRow w B v l) : ∃ a k, v = .slice a l.length k := by
  obtain ⟨u, c, e, _⟩ := own_form h
  exact ⟨u, c, e⟩
theorem Dp_ex (fs : List Ft) (s : ByteArray) : ∃ c L, Dp fs s c L ∧ L.length ≤ 4096 := by
  by_cases h1 : 65536 < s.size
  · exact ⟨2, [], by unfold Dp; rw [if_pos h1]; exact ⟨rfl, rfl⟩, by simp⟩
  obtain ⟨c, ab, hck, _, _⟩ := Chk_ex fs
  by_cases hc : c = 0
  · subst hc
    cases hq : findN fs s with
    | none => exact ⟨8, [], by unfold Dp; rw [if_neg h1]; exact ⟨0, ab, hck, .inr (.inl ⟨rfl, hq, rfl, rfl⟩)⟩, by simp⟩
    | some q =>
      refine ⟨0, _, by unfold Dp; rw [if_neg h1]; exact ⟨0, ab, hck, .inr (.inr ⟨rfl, q, hq, rfl, rfl⟩)⟩, ?_⟩
      have hf := hck.zero.1
      have h2 := (marks_one hf.one [q] (fun k => k == q) (fun k _ => by rw [Bool.eq_iff_iff]; simp) (nms fs).length).2.2.2
      rw [List.length_map]
      unfold ord
      rw [h2]
      have h3 := List.length_filter_le (fun j => (mrk (nms fs) (fun k => k == q) (wo (nms fs) (nms fs).length)).contains j) (wo (nms fs) (nms fs).length)
      have h4 := wo_len (nms fs) (nms fs).length
      have h5 := hf.len
      rw [nms_len] at h3 h4 ⊢
      omega
  · exact ⟨c, [], by unfold Dp; rw [if_neg h1]; exact ⟨c, ab, hck, .inl ⟨hc, rfl, rfl⟩⟩, by simp⟩
set_option maxHeartbeats 1000000 in
theorem fnExactDepends_walk (u : Option Addr) (n cap p po : Nat) (fs : List Ft) (s : ByteArray) (w : World) (hn : n ≤ 9223372036854775807) (hl : fs.length = n) (hs : ∀ f ∈ fs, f.nm.size ≤ maxLen ∧ f.on.size ≤ maxLen ∧ f.ov.size ≤ maxLen) (hu : SlG ftc 15 w u p po fs) (hsm : s.size ≤ maxLen) :
    Calls Try.prog 4 #[.slice u n cap, .string s] w fun e w' => e = .returned (.bool true) ∧ Below w.heap.size w w' := by
  by_cases hss : s.size ≤ 1048576
  · by_cases hb : n ≤ 1048576
    · obtain ⟨C, X, hdp, hX⟩ := Dp_ex fs s
      refine fnExactDepends_core u n cap p po X.length fs s X C w rfl hX hss hb (hide hl) (hide ((ft_sz u p po n cap fs w hl hn hs hu).mono ?_)) (hide fun W h => ft_to u p po n cap fs W hl hb (hu.bel h)) (hide fun g W h => (depM_any _ g 0 n n fs s W hl hb (Nat.le_refl _) hsm hs (h.slG ftc_len)).mono ?_) (hide fun g W h => (depP_any _ g 0 n n fs s W hl hb hsm hs (h.slG ftc_len)).mono ?_)
      · rintro e w' ⟨⟨r, he, _⟩, hb⟩
        exact ⟨⟨r, he⟩, hb⟩
      · rintro e w' ⟨⟨v1, c, L, rfl, hc, hs1⟩, hb⟩
        obtain ⟨rfl, rfl⟩ := hc.uniq hdp
        obtain ⟨a, k, rfl⟩ := srow_form hs1
        exact ⟨⟨a, k, rfl, hs1⟩, hb⟩
      · rintro e w' ⟨⟨v1, c, L, rfl, hc, hs1⟩, hb⟩
        obtain ⟨rfl, rfl⟩ := hc.uniq hdp
        obtain ⟨a, k, rfl⟩ := srow_form hs1
        exact ⟨⟨a, k, rfl, hs1⟩, hb⟩
    · have HSZ := hide (ft_sz u p po n cap fs w hl hn hs hu)
      have d1 : decide ((1048576 : Int) < (s.size : Int)) = false := decide_eq_false (by omega)
      clear hu hs hl
      go_enter Try.func4, Try.ntmps4
      go_wp2_with fail
      refine (unhide HSZ).mono ?_
      rintro e W0 ⟨⟨r, rfl, hr⟩, hb0⟩
      have HB0 := hide hb0
      have hz : r < 0 := by
        rcases Int.lt_or_le r 0 with h | h
        · exact h
        · exact absurd (hr h).1 hb
      have t : decide (r < 0) = true := decide_eq_true hz
      clear hr hb0
      go_wp2_with fail
      go_ret
      exact ⟨rfl, unhide HB0⟩
  · have d1 : decide ((1048576 : Int) < (s.size : Int)) = true := decide_eq_true (by omega)
    unfold maxLen at hsm
    clear hu hs hl
    go_enter Try.func4, Try.ntmps4
    go_wp2_with fail
    go_ret
    exact ⟨rfl, Below.refl _ _⟩
theorem fnExactDepends_own : ownKnob Try.prog.godebug = none := by kernel_rfl
theorem fnExactDepends_laidOut : laidOutB Try.prog = true := by kernel_rfl

set_option maxRecDepth 100000 in
theorem fnExactDepends_lifted (os : Os) (started : os.Started) (H : Type) (enc : TypeId × Value → H) :
    ReturnsInHanded {} Try.checked os 4 .any (Rows.fnExactDependsSpec.pre6 enc Try.prog Try.f4 Rows.fnExactDependsRow.domain false) (Rows.fnExactDependsSpec.post enc Try.prog Try.f4 false true false false) := by
  refine returnsInHanded_of_change (C := Try.checked) fnExactDepends_own started (by kernel_rfl) Try.func4
    (ChangeSpec.witness6 (enc := enc) (C := Try.checked) false ⟨#[], #[.slice none 0 0, .string ⟨#[]⟩], []⟩ 8 (by kernel_rfl) (by kernel_rfl) (by kernel_rfl) (by kernel_rfl)) ?_
  intro W base args ds gs before hval0 hW hcnd _
  have hval : ∀ (j : Nat) t v, Try.f4.params[j]? = some t → args[j]? = some v → Value.okWide Try.prog W .any base t v := hval0
  have hW' := hW
  obtain ⟨p, q, hA0, hV, rfl, hfz, hnd⟩ := hW
  have hA : DataW.TrodAll enc Try.prog W 0 (fun _ => true) true Try.f4.params.toList args.toList ds p := hA0
  rw [Try.params4] at hA hval
  obtain ⟨v0, vs0, d0, ds0, p0, q0, hargs0, rfl, rfl, h0, r0⟩ := trodAll_cons hA
  obtain ⟨v1, vs1, d1, ds1, p1, q1, rfl, rfl, rfl, h1, r1⟩ := trodAll_cons r0
  obtain ⟨rfl, rfl, rfl⟩ := trodAll_nil r1
  obtain rfl : args = #[v0, v1] := by cases args; simp_all
  obtain ⟨rfl, rfl⟩ := trodVars_none hV
  obtain ⟨a0, len0, cap0, rfl⟩ := okWide_slice Try.underlying22 (hval 0 22 v0 rfl rfl)
  obtain ⟨i1, rfl, rfl, rfl, w1⟩ := Go.ChangeMaps.open_string Try.underlying9 (hval 1 9 v1 rfl rfl) h1
  have k0 := h0
  have lt0 : ∀ x ∈ p0, x.block < W.heap.size := by obtain ⟨m, hm⟩ := k0; exact DataW.trod_lt m _ _ _ hm
  obtain ⟨pp, po, ls, b0, l0, s0, w0⟩ : ∃ (pp po : Nat) (ls : List Ft), len0 ≤ 9223372036854775807 ∧ ls.length = len0 ∧ (∀ f ∈ ls, f.nm.size ≤ maxLen ∧ f.on.size ≤ maxLen ∧ f.ov.size ≤ maxLen) ∧ SlG ftc 15 W a0 pp po ls := by
    obtain ⟨fuel, hf⟩ := h0
    obtain ⟨u, n, cap, pp, po, ls, hcs, hn, hl, hs, hx⟩ := open_fts hf
    simp [Value.cells] at hcs
    obtain ⟨rfl, rfl, rfl⟩ := hcs
    exact ⟨pp, po, ls, hn, hl, hs, hx⟩
  clear hA0 hval0
  refine (fnExactDepends_walk a0 len0 cap0 pp po ls i1 W b0 l0 s0 w0 w1).mono fun e W' ⟨he, bel⟩ => ?_
  subst he
  exact ⟨_, rfl, _, _, _, [], _, [], hW', trodAll_mk1 (shut_bool Try.underlying4 _), (trodAll_cons_mk (Below.trod fnExactDepends_laidOut (by kernel_rfl) (of_decide_eq_true (by kernel_rfl)) k0 bel lt0) (trodAll_cons_mk (Go.ChangeMaps.shut_string Try.underlying9 w1) trodAll_mk0)), rfl, bel.frame _, fun h => by cases h⟩

theorem fnExactDepends_over : Rows.fnExactDependsRow.holds Try.pinned (OpenSpec.ofChange Rows.fnExactDependsSpec) :=
  OpenClaim.holds_of_wide 4 Try.f4 rfl rfl rfl rfl rfl rfl rfl ⟨rfl, rfl, rfl, rfl, rfl⟩ rfl rfl rfl rfl rfl (by kernel_rfl) Try.func4 (by kernel_rfl)
    (of_decide_eq_true (by kernel_rfl)) (by unfold Func.isWrapper; first | (rw [if_pos (by decide +kernel)]; kernel_rfl) | (rw [if_neg (by decide +kernel)]; exact ⟨rfl, rfl⟩))
    (fun os started H enc _ => fnExactDepends_lifted os started H enc)

/-- The statement, as it was given. -/
theorem fnExactDepends_holds : Rows.FnExactDependsSaid := fnExactDepends_over
#print axioms fnExactDepends_holds
end Go.Proofs.Ytbenhicdhiichaa
