/- The program's Section answers as the model at every list of features, every list of names to leave out and every height; it changes none of them, and its answer owns its memory. -/
import Derived.Test.YtkiplmabjeadgaaGreatBpRoQ
import Derived.Test.YtkiplmabjeadgaaGreatSe15Q
import Derived.Test.YtkiplmabjeadgaaGreatFtRowsQ
import Derived.Test.YtkiplmabjeadgaaGreatMkTextQ
import Derived.Test.YtkiplmabjeadgaaGreatFtOpenQ
import Derived.Test.YtkiplmabjeadgaaGreatChecked
import Derived.Test.YtkiplmabjeadgaaGreatRows
import Derived.ChangeOld
import Derived.Lib.SmallJoins
namespace Go.Proofs.YtkiplmabjeadgaaGreat
set_option maxRecDepth 100000
set_option maxHeartbeats 16000000
open Go.ChangeShapes Go.WideShapes Go.ChangeAt Go.RowKit Go.Joins
set_option linter.unusedVariables false
set_option linter.unusedSimpArgs false
theorem strs_at {l : List ByteArray} {i : Nat} {s : ByteArray} (h : l[i]? = some s) : (strs l)[i]? = some (.string s) := by simp [strs, h]
theorem strs_len (l : List ByteArray) : (strs l).length = l.length := by simp [strs]
theorem SRow.mw {w w' : World} {B g : Nat} {v : Value} {l : List ByteArray} (h : SRow w B v l) (hm : Mw g w w') (hg : g < B) : SRow w' B v l := own_kept h (fun k hk => hm.block k (own_ge h k hk).2 (by have := (own_ge h k hk).1; omega))
theorem SRow.form2 {w : World} {B : Nat} {v : Value} {l : List ByteArray} (h : SRow w B v l) : ∃ u c, v = .slice u l.length c ∧ StAt w u l := by
 have h' := h;obtain ⟨u, c, rfl, _⟩ := own_form h';exact ⟨u, c, rfl, h.stAt.2⟩
theorem vb.mw' {w w' : World} {p g t : Nat} {L : List Value} (h : vb w p t L) (hm : Mw g w w') (hg : p ≠ g) : vb w' p t L := (hm.block p h.lt hg).trans h
theorem vb.stAt {w : World} {g : Nat} {l : List ByteArray} (h : vb w g 9 (strs l)) : StAt w (some ⟨g, 0, none⟩) l :=
  fun _ => ⟨g, 0, rfl, h.lt, fun i s hi => by rw [Nat.zero_add]; exact h.cell (strs_at hi)⟩
theorem markS_end {u : Option Addr} {B n cu : Nat} {w w' : World} {e : Ending} (hB : B ≤ w.heap.size) (h : e = .returned (.int .i64 (((1 : Nat) : Int) + (n : Int))) ∧ SRow w' B (.slice u n cu) (mkS 1 n) ∧ (n = 0 → w' = w) ∧ (n ≠ 0 → ∃ g, u = some ⟨g, 0, none⟩ ∧ B ≤ g ∧ Mw g w w')) :
  e = .returned (.int .i64 (((1 : Nat) : Int) + (n : Int))) ∧ SRow w' B (.slice u n cu) (mkS 1 n) ∧ Below B w w' := by
 obtain ⟨h1, h2, h3, h4⟩ := h;refine ⟨h1, h2, ?_⟩
 by_cases e0 : n = 0
 ·rw [h3 e0]; exact bfl _ _
 ·obtain ⟨g, _, hg, hm⟩ := h4 e0
  exact hm.below hg hB
theorem fnExactSection_walk (u1 : Option Addr) (n1 cap1 p1 po1 : Nat) (B : List Ft) (u3 : Option Addr) (n3 cap3 p3 po3 : Nat) (ns : List ByteArray) (z : Int) (w : World) (hn1 : n1 ≤ 9223372036854775807) (hl1 : B.length = n1) (hr1 : (∀ f ∈ B, f.nm.size ≤ maxLen ∧ f.on.size ≤ maxLen ∧ f.ov.size ≤ maxLen) ∧ SlG ftc 15 w u1 p1 po1 B)
  (hn3 : n3 ≤ 9223372036854775807) (hl3 : ns.length = n3) (hr3 : (∀ s ∈ ns, s.size ≤ maxLen) ∧ StAt w u3 ns) (hz : (Lit.int .i64 z).wf = true) :
  Calls Tryz.prog 5 #[.slice u1 n1 cap1, .slice u3 n3 cap3, .int .i64 z] w fun e w' => e = .returned (.bool true) ∧ Below w.heap.size w w' := by
 obtain ⟨hs1, hu1⟩ := hr1;obtain ⟨hs3, hu3⟩ := hr3;have HSZ1 := hide (ft_sz u1 p1 po1 n1 cap1 B w hl1 hn1 hs1 hu1);have HSZ3 := hide (fun r X (h0 : 0 ≤ r) (h1 : r ≤ 1048576) (hX : Below w.heap.size w X) => st_szq r h0 h1 u3 n3 cap3 ns X hl3 hn3 hs3 (hu3.bel hX));have HT1 := hide (fun (hb : n1 ≤ 1048576) X (hX : Below w.heap.size w X) => ft_to u1 p1 po1 n1 cap1 B X hl1 hb (hu1.bel hX));have HT3 := hide (fun (hb : n3 ≤ 1048576) X (hX : Below w.heap.size w X) => st_to u3 n3 cap3 ns X hl3 hb (hu3.bel hX))
 have HM := hide (fun (hb1 : n1 ≤ 1048576) (hb3 : n3 ≤ 1048576) g k X (hX : vb X g 75 (flatG ftc B)) (hZ : vb X k 9 (strs ns)) => sectM_any (some ⟨g, 0, none⟩) g 0 n1 n1 B (some ⟨k, 0, none⟩) n3 n3 ns z X hl1 hb1 (Nat.le_refl _) hs1 (hX.slG ftc_len) hl3 hb3 hZ.stAt);have HP := hide (fun (hb1 : n1 ≤ 1048576) (hb3 : n3 ≤ 1048576) g k X (hX : vb X g 75 (flatG ftc B)) (hZ : vb X k 9 (strs ns)) => sectP_any (some ⟨g, 0, none⟩) g 0 n1 n1 B (some ⟨k, 0, none⟩) n3 n3 ns z X hl1 hb1 hs1 (hX.slG ftc_len) hl3 hb3 hs3 hZ.stAt)
 have HE1 := hide (fun (hb : n1 ≤ 1048576) g g' X (hX : vb X g 75 (flatG ftc B)) (hY : vb X g' 75 (flatG ftc B)) => ft_same (some ⟨g, 0, none⟩) (some ⟨g', 0, none⟩) g 0 g' 0 n1 n1 n1 B X hl1 hb (hX.slG ftc_len) (hY.slG ftc_len));have HE3 := hide (fun (hb : n3 ≤ 1048576) g g' X (hX : vb X g 9 (strs ns)) (hY : vb X g' 9 (strs ns)) => st_same (some ⟨g, 0, none⟩) (some ⟨g', 0, none⟩) n3 n3 n3 ns X hl3 hb hX.stAt hY.stAt)
 have HKS := hide (fun (hb : n3 ≤ 1048576) g (k : Nat) X (hk0 : 0 < k) (hk : k ≤ 60000000) (hX : vb X g 9 (strs ns)) => st_mark (some ⟨g, 0, none⟩) g n3 n3 k ns X hl3 hb hk0 hk (by unfold SRow; rw [hl3]; exact hX.owns (Nat.le_refl _) (by rw [strs_len, hl3]) (by unfold maxLen; omega)));have HFL1 : Hid ((flatG ftc B).length = n1 * 15) := hide (by rw [flatG_len ftc_len, hl1]);clear hu1 hs1 hl1 hu3 hs3 hl3;go_enter Tryz.func5, Tryz.ntmps5;go_wp2_with fail;refine (zu HSZ1).mono ?_;rintro e W0 ⟨⟨r, rfl, hr⟩, hb0⟩;have HB1 := hide hb0;clear hb0 HSZ1
 by_cases hz : r < 0
 ·have t : decide (r < 0) = true := dt hz
  clear hr;go_wp2_with fail;go_ret;exact ⟨rfl, zu HB1⟩
 have t : decide (r < 0) = false := df hz;obtain ⟨hb1, hrl⟩ := hr (by omega);have hr0 : 0 ≤ r := by omega
 clear hr;go_wp2_with fail;refine (zu HSZ3 r _ hr0 hrl (zu HB1)).mono ?_;rintro e W000 ⟨⟨r3, rfl, hr⟩, rfl⟩;have HB00 := hide (zu HB1);clear HSZ3 HB1 t hz hrl hr0
 by_cases hz : r3 < 0
 ·have t : decide (r3 < 0) = true := dt hz
  clear hr;go_wp2_with fail;go_ret;exact ⟨rfl, zu HB00⟩
 have t : decide (r3 < 0) = false := df hz;have hb3 : n3 ≤ 1048576 := (hr (by omega)).1;have HT1 := hide (zu HT1 hb1);have HT3 := hide (zu HT3 hb3);have HM := hide (zu HM hb1 hb3);have HP := hide (zu HP hb1 hb3);have HE1 := hide (zu HE1 hb1);have HE3 := hide (zu HE3 hb3);have HKS := hide (zu HKS hb3);clear hr;go_wp2_with fail;refine (zu HT1 _ (zu HB00)).mono ?_;rintro e W1 ⟨⟨g1, rfl, hg1, hk⟩, hb⟩;have K1 := hide (bc (zu HB00) hb);have K2 := hide (hk);clear hb hk hg1;go_wp2_with fail;refine (zu HT3 _ (zu K1)).mono ?_;rintro e W2b ⟨⟨g2b, rfl, hg2b, hk⟩, hb⟩;have K3 := hide (bc (zu K1) hb)
 have K4 := hide ((zu K2).bel hb);have K5 := hide (hk);clear hb hk hg2b;go_wp2_with fail;refine (zu HM _ _ _ (zu K4) (zu K5)).mono ?_;rintro e W3 ⟨⟨v1, c, es, rfl, hans, hrow⟩, hb⟩;have K6 := hide (bc (zu K3) hb);have hlen := hans.len;have hrow2 : SRow W3 W2b.heap.size v1 es := hrow
 have HPX : Hid (∀ g k X, vb X g 75 (flatG ftc B) → vb X k 9 (strs ns) → Calls Tryz.prog 27 #[.slice (some ⟨g, 0, none⟩) n1 n1, .slice (some ⟨k, 0, none⟩) n3 n3, .int .i64 z] X fun e w' => (∃ a k, e = .returned (.tuple #[.slice a es.length k, .int .i64 c]) ∧ SRow w' X.heap.size (.slice a es.length k) es) ∧ Below X.heap.size X w') := hide (fun g k X hX hZ => (zu HP g k X hX hZ).mono (by
  rintro e w' ⟨⟨v, c', es', rfl, hans', hr'⟩, hb'⟩;obtain ⟨rfl, rfl⟩ := hans'.uniq hans;have hr2 : SRow w' X.heap.size v es' := hr';obtain ⟨a, k, rfl, _⟩ := hr2.form2
  exact ⟨⟨a, k, rfl, hr2⟩, hb'⟩))
 obtain ⟨aw, kw, rfl, hsl⟩ := hrow2.form2;have HMB : Hid (∀ W, Below W3.heap.size W3 W → StAt W aw es) := hide (fun W hW => hsl.bel hW);have HSB := hide (fun (a b : Option Addr) (j1 j2 : Nat) (W : World) (ha : StAt W a es) (hb' : StAt W b es) => st_same a b es.length j1 j2 es W rfl (by omega) ha hb');have HMK := hide (fun (a : Option Addr) (k BB : Nat) (W : World) (h : SRow W BB (.slice a es.length k) es) (hB : BB ≤ W.heap.size) => (st_mark a BB es.length k 1 es W rfl (by omega) (by omega) (by omega) h).mono (fun e w' hh => markS_end hB hh))
 have HFM := hide (fun (a : Option Addr) (k BB : Nat) (W : World) (h : SRow W BB (.slice a es.length k) es) => h.form2)
 obtain ⟨N, hN⟩ : ∃ N, es.length = N := ⟨_, rfl⟩
 rw [hN] at HPX HSB HMK HFM hlen ⊢;have cc : (c != c) = false := by simp
 have n0 : (0 : Int) ≤ (N : Int) := Int.natCast_nonneg _;clear hans hrow hrow2 hsl hN HP HM hb;have KD : Hid (Below W3.heap.size W3 W3) := hide (bfl _ _);go_wp2_with fail;refine (zu HT1 _ (zu K6)).mono ?_;rintro e W4 ⟨⟨g4, rfl, hg4, hk⟩, hb⟩;have K7 := hide (bc (zu K6) hb);have K8 := hide ((zu KD).trans (hb.mono (zu KD).size));have K9 := hide (hk);have HG4 : Hid (W3.heap.size ≤ g4 ∧ g4 < W4.heap.size) := hide ⟨hg4, hk.lt⟩;have HS4 := hide hb.size;clear hb hk hg4;go_wp2_with fail;refine (zu HT3 _ (zu K7)).mono ?_;rintro e W5b ⟨⟨g5b, rfl, hg5b, hk⟩, hb⟩;have K10 := hide (bc (zu K7) hb)
 have K11 := hide ((zu K8).trans (hb.mono (zu K8).size));have K12 := hide ((zu K9).bel hb);have K13 := hide (hk);have HG5b : Hid (W4.heap.size ≤ g5b ∧ g5b < W5b.heap.size) := hide ⟨hg5b, hk.lt⟩;have HS5b := hide hb.size;clear hb hk hg5b;have KZ : Hid (Below W5b.heap.size W5b W5b) := hide (bfl _ _);have HS3 : Hid (w.heap.size ≤ W3.heap.size) := hide (zu K6).size;go_wp2_with fail;refine (zu HPX _ _ _ (zu K12) (zu K13)).mono ?_;rintro e W6 ⟨⟨a6, k6, rfl, hr6⟩, hb⟩;have K14 := hide (bc (zu K10) hb);have K15 := hide ((zu K11).trans (hb.mono (zu K11).size));have K16 := hide ((zu K12).bel hb)
 have K17 := hide ((zu K13).bel hb);have K18 := hide ((zu KZ).trans (hb.mono (zu KZ).size));have K19 := hide (hr6);clear hb hr6;obtain ⟨_, _, e6, hq6⟩ := zu HFM _ _ _ _ (zu K19)
 injection e6 with e61 e62 e63
 subst e61;have HQ6 := hide hq6;clear hq6 e62 e63;go_wp2_with fail;refine (zu HSB a6 aw k6 kw _ (zu HQ6) (zu HMB _ (zu K15))).mono ?_;rintro e W7 ⟨rfl, hb⟩;have K20 := hide (bc (zu K14) hb);have K21 := hide ((zu K15).trans (hb.mono (zu K15).size));have K22 := hide ((zu K16).bel hb);have K23 := hide ((zu K17).bel hb);have K24 := hide ((zu K18).trans (hb.mono (zu K18).size));have K25 := hide ((zu K19).bel hb);clear hb HQ6;go_wp2_with fail;refine (zu HT1 _ (zu K20)).mono ?_;rintro e W8 ⟨⟨g8, rfl, hg8, hk⟩, hb⟩;have K26 := hide (bc (zu K20) hb)
 have K27 := hide ((zu K21).trans (hb.mono (zu K21).size));have K28 := hide ((zu K22).bel hb);have K29 := hide ((zu K23).bel hb);have K30 := hide ((zu K24).trans (hb.mono (zu K24).size));have K31 := hide ((zu K25).bel hb);have K32 := hide (hk);clear hb hk hg8;go_wp2_with fail;refine (zu HE1 _ _ _ (zu K28) (zu K32)).mono ?_;rintro e W9 ⟨rfl, hb⟩;have K33 := hide (bc (zu K26) hb);have K34 := hide ((zu K27).trans (hb.mono (zu K27).size));have K35 := hide ((zu K28).bel hb);have K36 := hide ((zu K29).bel hb);have K37 := hide ((zu K30).trans (hb.mono (zu K30).size));have K38 := hide ((zu K31).bel hb)
 clear hb;go_wp2_with fail;refine (zu HT3 _ (zu K33)).mono ?_;rintro e WAb ⟨⟨gAb, rfl, hgAb, hk⟩, hb⟩;have K39 := hide (bc (zu K33) hb);have K40 := hide ((zu K34).trans (hb.mono (zu K34).size));have K41 := hide ((zu K35).bel hb);have K42 := hide ((zu K36).bel hb);have K43 := hide ((zu K37).trans (hb.mono (zu K37).size));have K44 := hide ((zu K38).bel hb);have K45 := hide (hk);clear hb hk hgAb;go_wp2_with fail;refine (zu HE3 _ _ _ (zu K42) (zu K45)).mono ?_;rintro e WBb ⟨rfl, hb⟩;have K46 := hide (bc (zu K39) hb);have K47 := hide ((zu K40).trans (hb.mono (zu K40).size))
 have K48 := hide ((zu K41).bel hb);have K49 := hide ((zu K42).bel hb);have K50 := hide ((zu K43).trans (hb.mono (zu K43).size));have K51 := hide ((zu K44).bel hb);clear hb;go_wp2_with fail;refine (ft_mark (some ⟨g4, 0, none⟩) g4 n1 n1 1 (flatG ftc B) _ (zu HFL1) hb1 (by omega) (by omega) rfl (zu K48)).mono ?_;rintro e WC ⟨he, hmw⟩
 obtain ⟨k1, hk1⟩ : ∃ k1 : Nat, (k1 : Int) = ((1 : Nat) : Int) + 15 * (n1 : Int) := ⟨1 + 15 * n1, by omega⟩
 obtain rfl : e = .returned (.int .i64 (k1 : Int)) := he.trans (ret_int hk1.symm);clear he;obtain ⟨z1, z2⟩ := zu HG4;obtain ⟨z8, z9⟩ := zu HG5b;have z5 := zu HS4;have z7 := zu HS3;have z10 := zu HS5b;have K52 := hide ((zu K46).trans (hmw.below (by omega) (zu K46).size));have K53 := hide ((zu K47).trans (hmw.below (by omega) (zu K47).size));have ZA := hide (Nat.le_trans (zu K50).size hmw.size);have K54 := hide ((zu K49).mw' hmw (by omega));have K55 := hide ((zu K51).mw hmw (by omega));clear hmw;clear z1 z2 z5 z7 z8 z9 z10;have hk1b : k1 ≤ 15728641 := by omega
 have hk1c : 0 < k1 := by omega
 clear hk1;go_wp2_with fail;refine (zu HKS g5b k1 _ (by omega) (by omega) (zu K54)).mono ?_;rintro e WD2 ⟨he, _, hm0, hm1⟩
 obtain ⟨k3, hk3⟩ : ∃ k3 : Int, k3 = (k1 : Int) + (n3 : Int) := ⟨_, rfl⟩
 obtain rfl : e = .returned (.int .i64 k3) := he.trans (ret_int hk3.symm);clear he
 have hmw : Mw g5b WC WD2 := by
  by_cases h : n3 = 0
  ·rw [hm0 h]; exact Mw.refl _ _
  ·obtain ⟨g, eg, _, hg⟩ := hm1 h
   cases eg
   exact hg
 obtain ⟨z1, z2⟩ := zu HG4;obtain ⟨z8, z9⟩ := zu HG5b;have z5 := zu HS4;have z7 := zu HS3;have z10 := zu HS5b;have K56 := hide ((zu K52).trans (hmw.below (by omega) (zu K52).size));have K57 := hide ((zu K53).trans (hmw.below (by omega) (zu K53).size));have ZC := hide (Nat.le_trans (zu ZA) hmw.size);have K58 := hide ((zu K55).mw hmw (by omega));clear hmw hm0 hm1;clear z1 z2 z5 z7 z8 z9 z10;have t2 : decide (k3 < 0) = false := df (by omega);have t3 : ¬ k3 < 0 := by omega
 clear hk3 hk1b hk1c;obtain ⟨_, _, e6, hq6⟩ := zu HFM _ _ _ _ (zu K58)
 injection e6 with e61 e62 e63
 subst e61;have HQ6 := hide hq6;clear hq6 e62 e63;go_wp2_with fail;refine (zu HSB a6 aw k6 kw _ (zu HQ6) (zu HMB _ (zu K57))).mono ?_;rintro e WE ⟨rfl, hb⟩;have ZE := hide (Nat.le_trans (zu ZC) hb.size);have K59 := hide (bc (zu K56) hb);have K60 := hide ((zu K57).trans (hb.mono (zu K57).size));have K61 := hide ((zu K58).bel hb);clear hb HQ6;go_wp2_with fail;refine (zu HMK a6 k6 W5b.heap.size _ (zu K61) (zu ZE)).mono ?_;rintro e WF ⟨he, hrF, hbF⟩
 obtain ⟨mm, hmm⟩ : ∃ mm : Int, mm = ((1 : Nat) : Int) + (N : Int) := ⟨_, rfl⟩
 obtain rfl : e = .returned (.int .i64 mm) := he.trans (ret_int hmm.symm);have HMM := hide hmm;clear he hmm;obtain ⟨z1, z2⟩ := zu HG4;obtain ⟨z8, z9⟩ := zu HG5b;have z5 := zu HS4;have z7 := zu HS3;have z10 := zu HS5b;have K62 := hide ((zu K59).trans (hbF.mono (by omega)));have K63 := hide ((zu K60).trans (hbF.mono (by omega)));have HRF := hide hrF;clear hbF hrF;clear z1 z2 z5 z7 z8 z9 z10;have mk1 : decide (mm < 0) = false := df (by have := zu HMM; omega);have mk2 : ¬ (mm < 0) := by have := zu HMM; omega
 have mk3 : (mm != mm) = false := by simp
 go_wp2_with fail;refine (st_held a6 N k6 1 _ (by omega) (by omega) (by omega) (zu HRF).stAt.2).mono ?_;rintro e WG ⟨he, hb⟩;obtain rfl : e = .returned (.int .i64 mm) := he.trans (ret_int (zu HMM).symm);have K64 := hide (bc (zu K62) hb);have K65 := hide ((zu K63).trans (hb.mono (zu K63).size));have HRFWG := hide ((zu HRF).bel hb);clear hb he;go_wp2_with fail;refine (zu HT1 _ (zu K64)).mono ?_;rintro e WH ⟨⟨gH, rfl, hgH, hk⟩, hb⟩;have K66 := hide (bc (zu K64) hb);have K67 := hide ((zu K65).trans (hb.mono (zu K65).size));have HRFWGWH := hide ((zu HRFWG).bel hb);have K68 := hide (hk)
 clear hb hk hgH;go_wp2_with fail;refine (zu HT3 _ (zu K66)).mono ?_;rintro e WJ ⟨⟨gJ, rfl, hgJ, hk⟩, hb⟩;have K69 := hide (bc (zu K66) hb);have K70 := hide ((zu K67).trans (hb.mono (zu K67).size));have K71 := hide ((zu K68).bel hb);have HRFWGWHWJ := hide ((zu HRFWGWH).bel hb);have K72 := hide (hk);clear hb hk hgJ;go_wp2_with fail;refine (zu HPX _ _ _ (zu K71) (zu K72)).mono ?_;rintro e WK ⟨⟨aj, kj, rfl, hrj⟩, hb⟩;have K73 := hide (bc (zu K69) hb);have K74 := hide ((zu K70).trans (hb.mono (zu K70).size));have HRFWGWHWJWK := hide ((zu HRFWGWHWJ).bel hb);clear hb
 obtain ⟨_, _, ej, hqj⟩ := zu HFM _ _ _ _ hrj
 injection ej with ej1 ej2 ej3
 subst ej1;have HQJ := hide hqj;clear hqj ej2 ej3 hrj;go_wp2_with fail;refine (zu HSB aj aw kj kw _ (zu HQJ) (zu HMB _ (zu K74))).mono ?_;rintro e WL ⟨rfl, hb⟩;have K75 := hide (bc (zu K73) hb);have K76 := hide ((zu K74).trans (hb.mono (zu K74).size));have HRFWGWHWJWKWL := hide ((zu HRFWGWHWJWK).bel hb);clear hb HQJ;go_wp2_with fail;refine (st_held a6 N k6 1 _ (by omega) (by omega) (by omega) (zu HRFWGWHWJWKWL).stAt.2).mono ?_;rintro e WM ⟨he, hb⟩;obtain rfl : e = .returned (.int .i64 mm) := he.trans (ret_int (zu HMM).symm);have K77 := hide (bc (zu K75) hb)
 have K78 := hide ((zu K76).trans (hb.mono (zu K76).size));have HRFWGWHWJWKWLWM := hide ((zu HRFWGWHWJWKWL).bel hb);clear hb he;go_wp2_with fail;go_ret;exact ⟨rfl, (zu K77)⟩
theorem fnExactSection_own : ownKnob Tryz.prog.godebug = none := by kernel_rfl
theorem fnExactSection_laidOut : laidOutB Tryz.prog = true := by kernel_rfl
theorem fnExactSection_lifted (os : Os) (started : os.Started) (H : Type) (enc : TypeId × Value → H) :
  ReturnsInHanded {} Tryz.checked os 5 .any (Rows.fnExactSectionSpec.pre6 enc Tryz.prog Tryz.f5 Rows.fnExactSectionRow.domain false) (Rows.fnExactSectionSpec.post enc Tryz.prog Tryz.f5 false true false false) := by
 refine returnsInHanded_of_change (C := Tryz.checked) fnExactSection_own started (by kernel_rfl) Tryz.func5
  (ChangeSpec.witness6 (enc := enc) (C := Tryz.checked) false ⟨#[], #[.slice none 0 0, .slice none 0 0, .int .i64 0], []⟩ 8 (by kernel_rfl) (by kernel_rfl) (by kernel_rfl) (by kernel_rfl)) ?_
 intro W base args ds gs before hval0 hW hcnd _;have hval : ∀ (j : Nat) t v, Tryz.f5.params[j]? = some t → args[j]? = some v → Value.okWide Tryz.prog W .any base t v := hval0;have hW' := hW;obtain ⟨p, q, hA0, hV, rfl, hfz, hnd⟩ := hW;have hA : DataW.TrodAll enc Tryz.prog W 0 (fun _ => true) true Tryz.f5.params.toList args.toList ds p := hA0;rw [Tryz.params5] at hA hval;obtain ⟨v0, vs0, d0, ds0, p0, q0, hargs, rfl, rfl, h0, r0⟩ := trodAll_cons hA;obtain ⟨v1, vs1, d1, ds1, p1, q1, rfl, rfl, rfl, h1, r1⟩ := trodAll_cons r0;obtain ⟨v2, vs2, d2, ds2, p2, q2, rfl, rfl, rfl, h2, r2⟩ := trodAll_cons r1
 obtain ⟨rfl, rfl, rfl⟩ := trodAll_nil r2;obtain rfl : args = #[v0, v1, v2] := by cases args; simp_all
 obtain ⟨rfl, rfl⟩ := trodVars_none hV;obtain ⟨a0, len0, cap0, rfl⟩ := okWide_slice Tryz.underlying22 (hval 0 22 v0 rfl rfl);have k0 := h0;have lt0 : ∀ x ∈ p0, x.block < W.heap.size := by obtain ⟨m, hm⟩ := k0; exact DataW.trod_lt m _ _ _ hm
 obtain ⟨pp0, po0, ms0, b0, l0, w0⟩ : ∃ (pp po : Nat) (J : List Ft), len0 ≤ 9223372036854775807 ∧ J.length = len0 ∧ (∀ f ∈ J, f.nm.size ≤ maxLen ∧ f.on.size ≤ maxLen ∧ f.ov.size ≤ maxLen) ∧ SlG ftc 15 W a0 pp po J := by
  obtain ⟨fuel, hf⟩ := h0;obtain ⟨u, n, cap, pp, po, ms, hcs, hn, hl, hx⟩ := open_fts hf;simp [Value.cells] at hcs;obtain ⟨rfl, rfl, rfl⟩ := hcs;exact ⟨pp, po, ms, hn, hl, hx⟩
 obtain ⟨a1, len1, cap1, rfl⟩ := okWide_slice Tryz.underlying23 (hval 1 23 v1 rfl rfl);have k1 := h1;have lt1 : ∀ x ∈ p1, x.block < W.heap.size := by obtain ⟨m, hm⟩ := k1; exact DataW.trod_lt m _ _ _ hm
 obtain ⟨pp1, po1, ms1, b1, l1, w1⟩ : ∃ (pp po : Nat) (J : List ByteArray), len1 ≤ 9223372036854775807 ∧ J.length = len1 ∧ (∀ s ∈ J, s.size ≤ maxLen) ∧ StAt W a1 J := by
  obtain ⟨fuel, hf⟩ := h1;obtain ⟨u, n, cap, pp, po, ms, hcs, hn, hl, hx⟩ := open_sts hf;simp [Value.cells] at hcs;obtain ⟨rfl, rfl, rfl⟩ := hcs;exact ⟨pp, po, ms, hn, hl, hx⟩
 obtain ⟨a2, rfl, rfl, rfl, w2⟩ := open_int Tryz.underlying3 (hval 2 3 v2 rfl rfl) h2;clear hA0 hval0;refine (fnExactSection_walk a0 len0 cap0 pp0 po0 ms0 a1 len1 cap1 pp1 po1 ms1 a2 W b0 l0 w0 b1 l1 w1 w2).mono fun e W' ⟨he, bel⟩ => ?_
 subst he;exact ⟨_, rfl, _, _, _, [], _, [], hW', trodAll_mk1 (shut_bool Tryz.underlying4 _), (trodAll_cons_mk (Below.trod fnExactSection_laidOut (by kernel_rfl) (of_decide_eq_true (by kernel_rfl)) k0 bel lt0) (trodAll_cons_mk (Below.trod fnExactSection_laidOut (by kernel_rfl) (of_decide_eq_true (by kernel_rfl)) k1 bel lt1) (trodAll_cons_mk (shut_int Tryz.underlying3 w2) trodAll_mk0))), rfl, bel.frame _, fun h => by cases h⟩
theorem fnExactSection_over : Rows.fnExactSectionRow.holds Tryz.pinned (OpenSpec.ofChange Rows.fnExactSectionSpec) :=
 OpenClaim.holds_of_wide 5 Tryz.f5 rfl rfl rfl rfl rfl rfl rfl ⟨rfl, rfl, rfl, rfl, rfl⟩ rfl rfl rfl rfl rfl (by kernel_rfl) Tryz.func5 (by kernel_rfl)
  (of_decide_eq_true (by kernel_rfl)) (by unfold Func.isWrapper; first | (rw [if_pos (by decide +kernel)]; kernel_rfl) | (rw [if_neg (by decide +kernel)]; exact ⟨rfl, rfl⟩))
  (fun os started H enc _ => fnExactSection_lifted os started H enc)
theorem fnExactSection_holds : Rows.FnExactSectionSaid := fnExactSection_over
#print axioms fnExactSection_holds
end Go.Proofs.YtkiplmabjeadgaaGreat
