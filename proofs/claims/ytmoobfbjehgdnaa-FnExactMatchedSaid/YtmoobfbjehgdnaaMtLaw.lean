/-
  The program's Matched answers as the model at all lists of holes and shafts and all bounds; it changes none; its pairs lie in memory of their own.
-/
import Derived.Test.YtmoobfbjehgdnaaMtPP
import Derived.Test.YtmoobfbjehgdnaaPrRows
import Derived.Test.YtmoobfbjehgdnaaChecked
import Derived.Test.YtmoobfbjehgdnaaRows
import Derived.ShutString
import Derived.ChangeOld
import Derived.Lib.SmallJoins
namespace Go.Proofs.Ytmoobfbjehgdnaa
open Go.ChangeShapes Go.WideShapes Go.ChangeAt Go.RowKit
set_option linter.unusedVariables false
set_option linter.unusedSimpArgs false

/-- an answer's pairs: where they lie -/
def PrAt (w : World) (u : Option Addr) (q n cap : Nat) (L : List Int) : Prop := n ≠ 0 → u = some ⟨q, 0, none⟩ ∧ Row w 0 31 2 (.slice (some ⟨q, 0, none⟩) n cap) n L
theorem PrAt.bel {w w' : World} {u : Option Addr} {q n cap : Nat} {L : List Int} (h : PrAt w u q n cap L) (hb : Below w.heap.size w w') : PrAt w' u q n cap L := fun h0 => ⟨(h h0).1, (h h0).2.below hb⟩
theorem PrAt.ints {w : World} {u : Option Addr} {q n cap : Nat} {L : List Int} (h : PrAt w u q n cap L) : n ≠ 0 → u = some ⟨q, 0, none⟩ ∧ q < w.heap.size ∧ IntsAt w q 0 L := fun h0 => by
  obtain ⟨h1, h2⟩ := h h0
  obtain ⟨_, _, e, _, e2, _⟩ := h2.sm (by simp)
  cases e
  exact ⟨h1, e2, h2.ints⟩
theorem PrAt.but {w w' : World} {u : Option Addr} {q n cap g : Nat} {L : List Int} (h : PrAt w u q n cap L) (hb : But g w w') (hg : n ≠ 0 → q ≠ g) : PrAt w' u q n cap L := fun h0 => ⟨(h h0).1, (h h0).2.kept' (fun y hy => by simp only [Value.ownBlock, Option.some.injEq] at hy; subst hy; exact hb.block q (hg h0))⟩
theorem PAt.get {w : World} {B n : Nat} {v : Value} {ps : List (Int × Int)} (h : PAt w B v ps) (hn : ps.length = n) : ∃ u q cap, v = .slice u n cap ∧ PrAt w u q n cap (flat2 ps) ∧ (n ≠ 0 → B ≤ q) := by
  obtain ⟨u, cap, hv, hx⟩ := h
  by_cases h0 : n = 0
  · exact ⟨u, 0, cap, by rw [hv, hn], fun h => absurd h0 h, fun h => absurd h0 h⟩
  · obtain ⟨g, hu, hr⟩ := hx (fun e => h0 (by rw [← hn, e]; rfl))
    rw [hn] at hr
    exact ⟨u, g, cap, by rw [hv, hn], fun _ => ⟨hu, hr.mono (Nat.zero_le _)⟩, fun _ => hr.ge⟩
theorem iblk.keep {w w' : World} {g : Nat} {L : List Int} (h : iblk w g 3 L) (hb : Below w.heap.size w w') : iblk w' g 3 L := h.bel hb

set_option maxHeartbeats 4000000 in
set_option maxRecDepth 100000 in
theorem fnExactMatched_core (u v : Option Addr) (n cu m cv N : Nat) (H S : List Int) (lo hi : Int) (L : List Int) (C : Int) (w : World) (hN : N ≤ 400) (hL : L.length = N * 2) (hn : n ≤ 1048576) (hm : m ≤ 1048576) (HH : Hid (H.length = n)) (HS : Hid (S.length = m))
    (HA : Hid (∀ (W : World), Below w.heap.size w W → Calls Try.prog 10 #[.slice u n cu] W fun e w' => (∃ g, e = .returned (.slice (some ⟨g, 0, none⟩) n n) ∧ W.heap.size ≤ g ∧ iblk w' g 3 H) ∧ Below W.heap.size W w'))
    (HB : Hid (∀ (W : World), Below w.heap.size w W → Calls Try.prog 10 #[.slice v m cv] W fun e w' => (∃ g, e = .returned (.slice (some ⟨g, 0, none⟩) m m) ∧ W.heap.size ≤ g ∧ iblk w' g 3 S) ∧ Below W.heap.size W w'))
    (HM : Hid (∀ (g g' : Nat) (W : World), iblk W g 3 H → iblk W g' 3 S → Calls Try.prog 8 #[.slice (some ⟨g, 0, none⟩) n n, .slice (some ⟨g', 0, none⟩) m m, .int .i64 lo, .int .i64 hi] W fun e w' => (∃ u q cap, e = .returned (.tuple #[.slice u N cap, .int .i64 C]) ∧ PrAt w' u q N cap L ∧ (N ≠ 0 → W.heap.size ≤ q)) ∧ Below W.heap.size W w'))
    (HP : Hid (∀ (g g' : Nat) (W : World), iblk W g 3 H → iblk W g' 3 S → Calls Try.prog 7 #[.slice (some ⟨g, 0, none⟩) n n, .slice (some ⟨g', 0, none⟩) m m, .int .i64 lo, .int .i64 hi] W fun e w' => (∃ u q cap, e = .returned (.tuple #[.slice u N cap, .int .i64 C]) ∧ PrAt w' u q N cap L ∧ (N ≠ 0 → W.heap.size ≤ q)) ∧ Below W.heap.size W w')) :
    Calls Try.prog 4 #[.slice u n cu, .slice v m cv, .int .i64 lo, .int .i64 hi] w fun e w' => e = .returned (.bool true) ∧ Below w.heap.size w w' := by
  have HE := hide (fun (a b : Option Addr) (p q ca cb : Nat) (W : World) (ha : PrAt W a p N ca L) (hb : PrAt W b q N cb L) => pt_same a b p 0 q 0 N ca cb L W hL (by omega) ha.ints hb.ints)
  have cc : (C != C) = false := by simp
  have z1 : decide ((1048576 : Int) < (n : Int)) = false := decide_eq_false (by omega)
  have z2 : decide ((1048576 : Int) < (m : Int)) = false := decide_eq_false (by omega)
  have HLN := hide hL
  clear hL
  go_enter Try.func4, Try.ntmps4
  go_wp2_with fail
  refine (unhide HA _ (Below.refl _ _)).mono ?_
  rintro e W1 ⟨⟨a1, rfl, hga1, hka1⟩, hb1⟩
  have HBw := hide hb1
  have Ka1 := hide hka1
  clear hka1 hga1
  clear hb1
  go_wp2_with fail
  refine (unhide HB _ (unhide HBw)).mono ?_
  rintro e W2 ⟨⟨b1, rfl, hgb1, hkb1⟩, hb2⟩
  have HBw := hide (bc (unhide HBw) hb2)
  have Ka1 := hide ((unhide Ka1).bel hb2)
  have Kb1 := hide hkb1
  clear hkb1 hgb1
  clear hb2
  go_wp2_with fail
  refine (unhide HM _ _ _ (unhide Ka1) (unhide Kb1)).mono ?_
  rintro e W3 ⟨⟨um, qm, cm, rfl, hpm, hqm⟩, hb3⟩
  have HBw := hide (bc (unhide HBw) hb3)
  have Ka1 := hide ((unhide Ka1).bel hb3)
  have Kb1 := hide ((unhide Kb1).bel hb3)
  have Pm := hide hpm
  clear hpm hqm
  clear hb3
  go_wp2_with fail
  refine (unhide HA _ (unhide HBw)).mono ?_
  rintro e W4 ⟨⟨x0, rfl, hgx0, hkx0⟩, hb4⟩
  have LM : Hid (N ≠ 0 → qm < x0) := hide (fun h => Nat.lt_of_lt_of_le ((unhide Pm).ints h).2.1 hgx0)
  have LX0 := hide (Nat.le_trans (unhide HBw).size hgx0)
  have HBw := hide (bc (unhide HBw) hb4)
  have Pm := hide ((unhide Pm).bel hb4)
  have Kx0 := hide hkx0
  clear hkx0 hgx0
  clear hb4
  go_wp2_with fail
  refine (unhide HB _ (unhide HBw)).mono ?_
  rintro e W5 ⟨⟨x1, rfl, hgx1, hkx1⟩, hb5⟩
  have LX : Hid (x0 < x1) := hide (Nat.lt_of_lt_of_le (unhide Kx0).lt hgx1)
  have LX1 := hide (Nat.le_trans (unhide HBw).size hgx1)
  have HBw := hide (bc (unhide HBw) hb5)
  have Pm := hide ((unhide Pm).bel hb5)
  have Kx0 := hide ((unhide Kx0).bel hb5)
  have Kx1 := hide hkx1
  clear hkx1 hgx1
  clear hb5
  go_wp2_with fail
  refine (unhide HP _ _ _ (unhide Kx0) (unhide Kx1)).mono ?_
  rintro e W6 ⟨⟨up, qp, cp, rfl, hpp, hqp⟩, hb6⟩
  have LP : Hid (N ≠ 0 → x1 < qp) := hide (fun h => Nat.lt_of_lt_of_le (unhide Kx1).lt (hqp h))
  have HBw := hide (bc (unhide HBw) hb6)
  have Pm := hide ((unhide Pm).bel hb6)
  have Kx0 := hide ((unhide Kx0).bel hb6)
  have Kx1 := hide ((unhide Kx1).bel hb6)
  have Pp := hide hpp
  clear hpp hqp
  clear hb6
  go_wp2_with fail
  refine (unhide HE up um qp qm cp cm _ (unhide Pp) (unhide Pm)).mono ?_
  rintro e W7 ⟨rfl, hb7⟩
  have HBw := hide (bc (unhide HBw) hb7)
  have Pm := hide ((unhide Pm).bel hb7)
  have Kx0 := hide ((unhide Kx0).bel hb7)
  have Kx1 := hide ((unhide Kx1).bel hb7)
  have Pp := hide ((unhide Pp).bel hb7)
  clear hb7
  go_wp2_with fail
  refine (unhide HA _ (unhide HBw)).mono ?_
  rintro e W8 ⟨⟨a2, rfl, hga2, hka2⟩, hb8⟩
  have HBw := hide (bc (unhide HBw) hb8)
  have Pm := hide ((unhide Pm).bel hb8)
  have Kx0 := hide ((unhide Kx0).bel hb8)
  have Kx1 := hide ((unhide Kx1).bel hb8)
  have Pp := hide ((unhide Pp).bel hb8)
  have Ka2 := hide hka2
  clear hka2 hga2
  clear hb8
  go_wp2_with fail
  refine (it_same (some ⟨x0, 0, none⟩) (some ⟨a2, 0, none⟩) x0 0 a2 0 n n n H _ (unhide HH) (by omega) (unhide Kx0).its (unhide Ka2).its).mono ?_
  rintro e W9 ⟨rfl, hb9⟩
  have HBw := hide (bc (unhide HBw) hb9)
  have Pm := hide ((unhide Pm).bel hb9)
  have Kx0 := hide ((unhide Kx0).bel hb9)
  have Kx1 := hide ((unhide Kx1).bel hb9)
  have Pp := hide ((unhide Pp).bel hb9)
  have Ka2 := hide ((unhide Ka2).bel hb9)
  clear hb9
  go_wp2_with fail
  refine (unhide HB _ (unhide HBw)).mono ?_
  rintro e W10 ⟨⟨b2, rfl, hgb2, hkb2⟩, hb10⟩
  have HBw := hide (bc (unhide HBw) hb10)
  have Pm := hide ((unhide Pm).bel hb10)
  have Kx0 := hide ((unhide Kx0).bel hb10)
  have Kx1 := hide ((unhide Kx1).bel hb10)
  have Pp := hide ((unhide Pp).bel hb10)
  have Kb2 := hide hkb2
  clear hkb2 hgb2
  clear hb10
  go_wp2_with fail
  refine (it_same (some ⟨x1, 0, none⟩) (some ⟨b2, 0, none⟩) x1 0 b2 0 m m m S _ (unhide HS) (by omega) (unhide Kx1).its (unhide Kb2).its).mono ?_
  rintro e W11 ⟨rfl, hb11⟩
  have HBw := hide (bc (unhide HBw) hb11)
  have Pm := hide ((unhide Pm).bel hb11)
  have Kx0 := hide ((unhide Kx0).bel hb11)
  have Kx1 := hide ((unhide Kx1).bel hb11)
  have Pp := hide ((unhide Pp).bel hb11)
  have Kb2 := hide ((unhide Kb2).bel hb11)
  clear hb11
  go_wp2_with fail
  refine (it_markW (some ⟨x0, 0, none⟩) x0 n n H 1 _ (unhide HH) (by omega) (by omega) (by omega) (fun _ => ⟨rfl, unhide Kx0⟩)).mono ?_
  rintro e Wa ⟨rfl, _, _, hba⟩
  have HBw := hide ((unhide HBw).trans (hba.bel (unhide LX0)))
  have Pm := hide ((unhide Pm).but hba (fun h => Nat.ne_of_lt (unhide LM h)))
  have Pp := hide ((unhide Pp).but hba (fun h => Nat.ne_of_gt (Nat.lt_trans (unhide LX) (unhide LP h))))
  have Kx1 := hide ((unhide Kx1).but hba (Nat.ne_of_gt (unhide LX)))
  clear hba Kx0
  go_wp2_with fail
  refine (it_markW (some ⟨x1, 0, none⟩) x1 m m S (1 + (n : Int)) _ (unhide HS) (by omega) (by omega) (by omega) (fun _ => ⟨rfl, unhide Kx1⟩)).mono ?_
  rintro e Wb ⟨rfl, _, _, hbb⟩
  have HBw := hide ((unhide HBw).trans (hbb.bel (unhide LX1)))
  have Pm := hide ((unhide Pm).but hbb (fun h => Nat.ne_of_lt (Nat.lt_trans (unhide LM h) (unhide LX))))
  have Pp := hide ((unhide Pp).but hbb (fun h => Nat.ne_of_gt (unhide LP h)))
  clear hbb Kx1
  have t2 : decide ((1 : Int) + (n : Int) + (m : Int) < 0) = false := decide_eq_false (by omega)
  go_wp2_with fail
  refine (unhide HE up um qp qm cp cm _ (unhide Pp) (unhide Pm)).mono ?_
  rintro e W12 ⟨rfl, hb12⟩
  have HBw := hide (bc (unhide HBw) hb12)
  have Pm := hide ((unhide Pm).bel hb12)
  have Pp := hide ((unhide Pp).bel hb12)
  clear hb12
  go_wp2_with fail
  have HMK : Hid (Calls Try.prog 14 #[.slice up N cp, .int .i64 1] W12 fun e w' => e = .returned (.int .i64 (1 + (N : Int) * 2)) ∧ (N ≠ 0 → Row w' 0 31 2 (.slice (some ⟨qp, 0, none⟩) N cp) N (marks 1 (N * 2))) ∧ ((N ≠ 0 → Below qp W12 w') ∧ (N = 0 → w' = W12))) := hide (by
    by_cases h0 : N = 0
    · subst h0
      refine (pr_mark0 up cp 1 _).mono ?_
      rintro e w' ⟨rfl, rfl⟩
      exact ⟨rfl, fun h => absurd rfl h, fun h => absurd rfl h, fun _ => rfl⟩
    · obtain ⟨h1, h2⟩ := unhide Pp h0
      rw [h1]
      have h3 : Row W12 qp 31 2 (.slice (some ⟨qp, 0, none⟩) N cp) N L := ⟨h2.1, by
        rcases h2.2 with h5 | ⟨g', cap', cur, hv, hB, r⟩
        · exact .inl h5
        · cases hv; exact .inr ⟨qp, cp, cur, rfl, Nat.le_refl _, r⟩⟩
      refine (pt_markR qp N _ L 1 _ (by omega) (by omega) (by omega) h3).mono ?_
      rintro e w' ⟨rfl, hr, hb, _⟩
      exact ⟨rfl, fun _ => hr.mono (Nat.zero_le _), fun _ => hb, fun h => absurd h h0⟩)
  refine (unhide HMK).mono ?_
  rintro e Wc ⟨rfl, hrc, hbc, hzc⟩
  have HBw : Hid (Below w.heap.size w Wc) := hide (by
    by_cases h0 : N = 0
    · rw [hzc h0]; exact unhide HBw
    · exact (unhide HBw).trans ((hbc h0).mono (Nat.le_trans (unhide LX1) (Nat.le_of_lt (unhide LP h0)))))
  have Pm : Hid (PrAt Wc um qm N cm L) := hide (fun h0 => ⟨(unhide Pm h0).1, (unhide Pm h0).2.kept' (fun y hy => by
    simp only [Value.ownBlock, Option.some.injEq] at hy
    subst hy
    exact (hbc h0).block qm (Nat.lt_trans (unhide LM h0) (Nat.lt_trans (unhide LX) (unhide LP h0))))⟩)
  have PM : Hid (PrAt Wc up qp N cp (marks 1 (N * 2))) := hide (fun h0 => ⟨(unhide Pp h0).1, hrc h0⟩)
  have t3 : decide ((1 : Int) + (N : Int) * 2 < 0) = false := decide_eq_false (by omega)
  have t4 : ((1 : Int) + (N : Int) * 2 != 1 + (N : Int) * 2) = false := by simp
  clear hrc hbc hzc HMK Pp
  go_wp2_with fail
  refine (pt_held up qp N cp 1 _ (by omega) (by omega) (by omega) (fun h => ⟨(unhide PM h).1, ((unhide PM).ints h).2.2⟩)).mono ?_
  rintro e W13 ⟨rfl, hs13⟩
  have HBw := hide ((unhide HBw).trans hs13.bel)
  have Pm := hide ((unhide Pm).bel hs13.bel)
  have PM := hide ((unhide PM).bel hs13.bel)
  clear hs13
  go_wp2_with fail
  refine (unhide HA _ (unhide HBw)).mono ?_
  rintro e W14 ⟨⟨a3, rfl, hga3, hka3⟩, hb14⟩
  have HBw := hide (bc (unhide HBw) hb14)
  have Pm := hide ((unhide Pm).bel hb14)
  have PM := hide ((unhide PM).bel hb14)
  have Ka3 := hide hka3
  clear hka3 hga3
  clear hb14
  go_wp2_with fail
  refine (unhide HB _ (unhide HBw)).mono ?_
  rintro e W15 ⟨⟨b3, rfl, hgb3, hkb3⟩, hb15⟩
  have HBw := hide (bc (unhide HBw) hb15)
  have Pm := hide ((unhide Pm).bel hb15)
  have PM := hide ((unhide PM).bel hb15)
  have Ka3 := hide ((unhide Ka3).bel hb15)
  have Kb3 := hide hkb3
  clear hkb3 hgb3
  clear hb15
  go_wp2_with fail
  refine (unhide HP _ _ _ (unhide Ka3) (unhide Kb3)).mono ?_
  rintro e W16 ⟨⟨uh, qh, ch, rfl, hph, hqh⟩, hb16⟩
  have HBw := hide (bc (unhide HBw) hb16)
  have Pm := hide ((unhide Pm).bel hb16)
  have PM := hide ((unhide PM).bel hb16)
  have Ka3 := hide ((unhide Ka3).bel hb16)
  have Kb3 := hide ((unhide Kb3).bel hb16)
  have Ph := hide hph
  clear hph hqh
  clear hb16
  go_wp2_with fail
  refine (unhide HE uh um qh qm ch cm _ (unhide Ph) (unhide Pm)).mono ?_
  rintro e W17 ⟨rfl, hb17⟩
  have HBw := hide (bc (unhide HBw) hb17)
  have Pm := hide ((unhide Pm).bel hb17)
  have PM := hide ((unhide PM).bel hb17)
  have Ph := hide ((unhide Ph).bel hb17)
  clear hb17
  go_wp2_with fail
  refine (pt_held up qp N cp 1 _ (by omega) (by omega) (by omega) (fun h => ⟨(unhide PM h).1, ((unhide PM).ints h).2.2⟩)).mono ?_
  rintro e W18 ⟨rfl, hs18⟩
  have HBw := hide ((unhide HBw).trans hs18.bel)
  have Pm := hide ((unhide Pm).bel hs18.bel)
  have PM := hide ((unhide PM).bel hs18.bel)
  have Ph := hide ((unhide Ph).bel hs18.bel)
  clear hs18
  go_wp2_with fail
  go_ret
  exact ⟨rfl, unhide HBw⟩


theorem mtP_len (H S : List Int) (lo hi : Int) : (mtP H S lo hi).length ≤ 400 := by
  unfold mtP
  split
  · rename_i h
    have h1 := mtC_ok h
    have h2 := (pgo_len H S lo hi (ordL H H.length) (ordL S S.length)).2
    rw [ordL_len] at h2
    omega
  · simp
/-- numbers that came in -/
def IsRow (k : IntKind) (w : World) (a : Option Addr) (len cap : Nat) (zs : List Int) : Prop :=
  (a = none ∧ len = 0 ∧ cap = 0 ∧ zs = []) ∨
  ∃ x, a = some x ∧ len ≤ cap ∧ cap ≤ maxLen ∧ zs.length = cap ∧ (∀ i, i < zs.length → w.cell? (x.add i) = some (.int k (zs.getD i 0))) ∧ ∀ n ∈ zs, (Lit.int k n).wf = true
theorem row_its {w : World} {a : Option Addr} {len cap : Nat} {zs : List Int} (h : IsRow .i64 w a len cap zs) : ∃ p po L, L.length = len ∧ len ≤ maxLen ∧ Its w a p po L := by
  rcases h with ⟨rfl, rfl, rfl, rfl⟩ | ⟨x, rfl, hl, hm, hz, hcell, hwz⟩
  · exact ⟨0, 0, [], rfl, by unfold maxLen; omega, fun h => absurd rfl h⟩
  · by_cases h0 : len = 0
    · exact ⟨0, 0, [], h0.symm, by unfold maxLen; omega, fun h => absurd rfl h⟩
    · obtain ⟨b, off, spot⟩ := x
      have hc := hcell 0 (by omega)
      have hspot : spot = none := by simpa [Addr.add] using World.cell?_spot hc
      subst hspot
      have hc0 : w.cell? ⟨b, off, none⟩ = some (.int .i64 (zs.getD 0 0)) := by simpa [Addr.add] using hc
      refine ⟨b, off, zs.take len, by rw [List.length_take]; omega, by omega, fun _ => ⟨rfl, cell_lt hc0, ?_⟩⟩
      intro j y hj
      rw [List.getElem?_take] at hj
      split at hj
      · have hjl : j < zs.length := (List.getElem?_eq_some_iff.1 hj).1
        have hci := hcell j hjl
        rw [add_none] at hci
        rw [hci]
        have : zs.getD j 0 = y := by rw [List.getD_eq_getElem?_getD, hj]; rfl
        rw [this]
      · cases hj

set_option maxHeartbeats 400000 in
set_option maxRecDepth 100000 in
theorem fnExactMatched_walk (u : Option Addr) (n cu : Nat) (zs : List Int) (v : Option Addr) (m cv : Nat) (zs2 : List Int) (lo hi : Int) (w : World) (h : IsRow .i64 w u n cu zs) (h2 : IsRow .i64 w v m cv zs2) :
    Calls Try.prog 4 #[.slice u n cu, .slice v m cv, .int .i64 lo, .int .i64 hi] w fun e w' => e = .returned (.bool true) ∧ Below w.heap.size w w' := by
  obtain ⟨p, po, H, hH, hn0, hu⟩ := row_its h
  obtain ⟨q, qo, S, hS, hm0, hv⟩ := row_its h2
  unfold maxLen at hn0 hm0
  clear h h2
  by_cases hn : n ≤ 1048576
  · by_cases hm : m ≤ 1048576
    · refine fnExactMatched_core u v n cu m cv (mtP H S lo hi).length H S lo hi (flat2 (mtP H S lo hi)) (mtC H S lo hi) w (mtP_len H S lo hi) (flat2_len _) hn hm (hide hH) (hide hS)
        (hide fun W hW => it_to u p po n cu H W hH hn (hu.bel hW)) (hide fun W hW => it_to v q qo m cv S W hS hm (hv.bel hW)) (hide fun g g' W hg hg' => ?_) (hide fun g g' W hg hg' => ?_)
      · refine (mtM_any (some ⟨g, 0, none⟩) (some ⟨g', 0, none⟩) g 0 n n g' 0 m m H S lo hi W hH hS hn hm hg.its hg'.its).mono ?_
        rintro e w' ⟨⟨val, rfl, hp⟩, hb⟩
        obtain ⟨a, b, c, rfl, h1, h2⟩ := hp.get rfl
        exact ⟨⟨a, b, c, rfl, h1, h2⟩, hb⟩
      · refine (mtP_any (some ⟨g, 0, none⟩) (some ⟨g', 0, none⟩) g 0 n n g' 0 m m H S lo hi W hH hS hn hm hg.its hg'.its).mono ?_
        rintro e w' ⟨⟨val, rfl, hp⟩, hb⟩
        obtain ⟨a, b, c, rfl, h1, h2⟩ := hp.get rfl
        exact ⟨⟨a, b, c, rfl, h1, h2⟩, hb⟩
    · have z1 : decide ((1048576 : Int) < (n : Int)) = false := decide_eq_false (by omega)
      have z2 : decide ((1048576 : Int) < (m : Int)) = true := decide_eq_true (by omega)
      clear hu hv
      go_enter Try.func4, Try.ntmps4
      go_wp2
      go_ret
      exact ⟨rfl, Below.refl _ _⟩
  · have z1 : decide ((1048576 : Int) < (n : Int)) = true := decide_eq_true (by omega)
    clear hu hv
    go_enter Try.func4, Try.ntmps4
    go_wp2
    go_ret
    exact ⟨rfl, Below.refl _ _⟩

theorem fnExactMatched_own : ownKnob Try.prog.godebug = none := by kernel_rfl
theorem fnExactMatched_laidOut : laidOutB Try.prog = true := by kernel_rfl

set_option maxRecDepth 100000 in
theorem fnExactMatched_lifted (os : Os) (started : os.Started) (H : Type) (enc : TypeId × Value → H) :
    ReturnsInHanded {} Try.checked os 4 .any (Rows.fnExactMatchedSpec.pre6 enc Try.prog Try.f4 Rows.fnExactMatchedRow.domain false) (Rows.fnExactMatchedSpec.post enc Try.prog Try.f4 false true false false) := by
  refine returnsInHanded_of_change (C := Try.checked) fnExactMatched_own started (by kernel_rfl) Try.func4
    (ChangeSpec.witness6 (enc := enc) (C := Try.checked) false ⟨#[], #[.slice none 0 0, .slice none 0 0, .int .i64 0, .int .i64 0], []⟩ 8 (by kernel_rfl) (by kernel_rfl) (by kernel_rfl) (by kernel_rfl)) ?_
  intro W base args ds gs before hval0 hW hcnd _
  have hval : ∀ (j : Nat) t v, Try.f4.params[j]? = some t → args[j]? = some v → Value.okWide Try.prog W .any base t v := hval0
  have hW' := hW
  obtain ⟨p, q, hA0, hV, rfl, hfz, hnd⟩ := hW
  have hA : DataW.TrodAll enc Try.prog W 0 (fun _ => true) true Try.f4.params.toList args.toList ds p := hA0
  rw [Try.params4] at hA hval
  obtain ⟨v0, vs0, d0, ds0, p0, q0, hargs, rfl, rfl, h0, r0⟩ := trodAll_cons hA
  obtain ⟨v1, vs1, d1, ds1, p1, q1, rfl, rfl, rfl, h1, r1⟩ := trodAll_cons r0
  obtain ⟨v2, vs2, d2, ds2, p2, q2, rfl, rfl, rfl, h2, r2⟩ := trodAll_cons r1
  obtain ⟨v3, vs3, d3, ds3, p3, q3, rfl, rfl, rfl, h3, r3⟩ := trodAll_cons r2
  obtain ⟨rfl, rfl, rfl⟩ := trodAll_nil r3
  obtain rfl : args = #[v0, v1, v2, v3] := by cases args; simp_all
  obtain ⟨rfl, rfl⟩ := trodVars_none hV
  obtain ⟨a0, len0, cap0, rfl⟩ := okWide_slice Try.underlying23 (hval 0 23 v0 rfl rfl)
  have k0 := h0
  have lt0 : ∀ x ∈ p0, x.block < W.heap.size := by obtain ⟨m, hm⟩ := k0; exact DataW.trod_lt m _ _ _ hm
  obtain ⟨z0, w0⟩ : ∃ zs, IsRow .i64 W a0 len0 cap0 zs := by
    obtain ⟨fuel, hf⟩ := h0
    rcases open_ints Try.underlying23 Try.underlying3 (by kernel_rfl) hf with ⟨hcs, _⟩ | ⟨x, l, c, zs, hcs, _, hl, hm, hz, _, hcell, hwz⟩
    · simp [Value.cells] at hcs
      obtain ⟨rfl, rfl, rfl⟩ := hcs
      exact ⟨[], .inl ⟨rfl, rfl, rfl, rfl⟩⟩
    · simp [Value.cells] at hcs
      obtain ⟨rfl, rfl, rfl⟩ := hcs
      exact ⟨zs, .inr ⟨_, rfl, hl, hm, by simpa using hz, hcell, hwz⟩⟩
  obtain ⟨a1, len1, cap1, rfl⟩ := okWide_slice Try.underlying23 (hval 1 23 v1 rfl rfl)
  have k1 := h1
  have lt1 : ∀ x ∈ p1, x.block < W.heap.size := by obtain ⟨m, hm⟩ := k1; exact DataW.trod_lt m _ _ _ hm
  obtain ⟨z1, w1⟩ : ∃ zs, IsRow .i64 W a1 len1 cap1 zs := by
    obtain ⟨fuel, hf⟩ := h1
    rcases open_ints Try.underlying23 Try.underlying3 (by kernel_rfl) hf with ⟨hcs, _⟩ | ⟨x, l, c, zs, hcs, _, hl, hm, hz, _, hcell, hwz⟩
    · simp [Value.cells] at hcs
      obtain ⟨rfl, rfl, rfl⟩ := hcs
      exact ⟨[], .inl ⟨rfl, rfl, rfl, rfl⟩⟩
    · simp [Value.cells] at hcs
      obtain ⟨rfl, rfl, rfl⟩ := hcs
      exact ⟨zs, .inr ⟨_, rfl, hl, hm, by simpa using hz, hcell, hwz⟩⟩
  obtain ⟨i2, rfl, rfl, rfl, w2⟩ := open_int Try.underlying3 (hval 2 3 v2 rfl rfl) h2
  obtain ⟨i3, rfl, rfl, rfl, w3⟩ := open_int Try.underlying3 (hval 3 3 v3 rfl rfl) h3
  clear hA0 hval0
  refine (fnExactMatched_walk a0 len0 cap0 z0 a1 len1 cap1 z1 i2 i3 W w0 w1).mono fun e W' ⟨he, bel⟩ => ?_
  subst he
  exact ⟨_, rfl, _, _, _, [], _, [], hW', trodAll_mk1 (shut_bool Try.underlying4 _), (trodAll_cons_mk (Below.trod fnExactMatched_laidOut (by kernel_rfl) (of_decide_eq_true (by kernel_rfl)) k0 bel lt0) (trodAll_cons_mk (Below.trod fnExactMatched_laidOut (by kernel_rfl) (of_decide_eq_true (by kernel_rfl)) k1 bel lt1) (trodAll_cons_mk (shut_int Try.underlying3 w2) (trodAll_cons_mk (shut_int Try.underlying3 w3) trodAll_mk0)))), rfl, bel.frame _, fun h => by cases h⟩

theorem fnExactMatched_over : Rows.fnExactMatchedRow.holds Try.pinned (OpenSpec.ofChange Rows.fnExactMatchedSpec) :=
  OpenClaim.holds_of_wide 4 Try.f4 rfl rfl rfl rfl rfl rfl rfl ⟨rfl, rfl, rfl, rfl, rfl⟩ rfl rfl rfl rfl rfl (by kernel_rfl) Try.func4 (by kernel_rfl)
    (of_decide_eq_true (by kernel_rfl)) (by unfold Func.isWrapper; first | (rw [if_pos (by decide +kernel)]; kernel_rfl) | (rw [if_neg (by decide +kernel)]; exact ⟨rfl, rfl⟩))
    (fun os started H enc _ => fnExactMatched_lifted os started H enc)

/-- The statement, as it was given. -/
theorem fnExactMatched_holds : Rows.FnExactMatchedSaid := fnExactMatched_over
#print axioms fnExactMatched_holds
end Go.Proofs.Ytmoobfbjehgdnaa
