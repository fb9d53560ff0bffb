/-
  The program's LedgerOf answers as the model at every shop, jobs and slots; it changes none of them, and its answer owns its memory.
-/
import Derived.Test.YtbgekppggakdoaaLgM
import Derived.Test.YtbgekppggakdoaaPcPl
import Derived.Test.YtbgekppggakdoaaSlRows
import Derived.Test.YtbgekppggakdoaaSlMark
import Derived.Test.YtbgekppggakdoaaLgRows
import Derived.Test.YtbgekppggakdoaaJbMark
import Derived.Test.YtbgekppggakdoaaJbEq
import Derived.Test.YtbgekppggakdoaaPOpen
import Derived.Test.YtbgekppggakdoaaChecked
import Derived.Test.YtbgekppggakdoaaRows
import Derived.ChangeOld
import Derived.Lib.SmallJoins
namespace Go.Proofs.Ytbgekppggakdoaa
open Go.ChangeShapes Go.WideShapes Go.ChangeAt Go.RowKit Go.Joins
set_option linter.unusedVariables false
set_option linter.unusedSimpArgs false

theorem iblk_mw {A : Nat → Prop} {w w' : World} {g t : Nat} {L : List Int} (h : iblk w g t L) (x : Mw A w w') (ha : ¬ A g) : iblk w' g t L := (x.block g h.lt ha).trans h
theorem shOk_N {N S L : Int} {J : List Jb} (h : shOk N S L J = true) : N ≤ 6 := by
  simp only [shOk, inR, Bool.and_eq_true, decide_eq_true_eq] at h
  omega
theorem lat_pl (J : List Jb) (h : Hl) (k : Nat) : lat (J.map pl) h k = lat J h k := by
  induction k with
  | zero => rfl
  | succ k ih =>
    simp only [lat, ih, List.getElem?_map]
    congr 2
    cases J[k]? <;> rfl
theorem Alike.lat {J J' : List Jb} (h : Alike J J') (N : Int) (P : List Slt) : lat J' (hal N J' P) J'.length = lat J (hal N J P) J.length := by
  rw [h.len, ← lat_pl J', ← lat_pl J, ← hal_pl N J', ← hal_pl N J, h]
theorem LgAns.alike {N S L : Int} {J J' : List Jb} {P : List Slt} {B : Nat} {v : Value} {W : World} (h : LgAns N S L J' P B v W) (ha : Alike J J') : LgAns N S L J P B v W := by
  unfold LgAns at h ⊢
  rw [ha.pcC, ha.lat] at h
  exact h

set_option maxRecDepth 100000 in
set_option maxHeartbeats 4000000 in
theorem fnExactLedgerOf_good (N S L : Int) (u : Option Addr) (n c p po : Nat) (J : List Jb) (v : Option Addr) (k d r0 ro : Nat) (P : List Slt) (w : World) (hn : n ≤ 9223372036854775807) (hl : J.length = n) (hu : Jbs w u p po J) (hk : k ≤ 9223372036854775807) (hpl : P.length = k) (hv : SlG slc 6 w v r0 ro P)
    (e1 e2 e3 e4 : Int) (m : Nat) (T : List Int) (hT : T.length = m) (hm : m ≤ 1048576) (HM : Hid (∀ g c J' h d X, Jbs X (some ⟨g, 0, none⟩) g 0 J' → Alike J J' → vb X h 71 (flatG slc P) → Calls Try.prog 18 #[.agg #[.int .i64 N, .int .i64 S, .int .i64 L], .slice (some ⟨g, 0, none⟩) n c, .slice (some ⟨h, 0, none⟩) k d] X fun e w' => (∃ q, X.heap.size ≤ q ∧ e = .returned (.tuple #[.agg #[.int .i64 e1, .int .i64 e2, .int .i64 e3, .int .i64 e4, .slice (some ⟨q, 0, none⟩) m m], .int .i64 0]) ∧ iblk w' q 3 T) ∧ Below X.heap.size X w')) (HP : Hid (∀ g c J' h d X, Jbs X (some ⟨g, 0, none⟩) g 0 J' → Alike J J' → vb X h 71 (flatG slc P) → Calls Try.prog 19 #[.agg #[.int .i64 N, .int .i64 S, .int .i64 L], .slice (some ⟨g, 0, none⟩) n c, .slice (some ⟨h, 0, none⟩) k d] X fun e w' => (∃ q, X.heap.size ≤ q ∧ e = .returned (.tuple #[.agg #[.int .i64 e1, .int .i64 e2, .int .i64 e3, .int .i64 e4, .slice (some ⟨q, 0, none⟩) m m], .int .i64 0]) ∧ iblk w' q 3 T) ∧ Below X.heap.size X w')) :
    Calls Try.prog 5 #[.agg #[.int .i64 N, .int .i64 S, .int .i64 L], .slice u n c, .slice v k d] w fun e w' => e = .returned (.bool true) ∧ Below w.heap.size w w' := by
  have HB0 := hide (ba (Below.refl w.heap.size w) (.cells #[.int .i64 N, .int .i64 S, .int .i64 L] 23))
  have HV := hide (vb_new w 23 [.int .i64 N, .int .i64 S, .int .i64 L] w.heap.size rfl)
  have HZ := hide (fun X (hX : Below w.heap.size w X) => jb_sz u p po n c J 1048576 X hl hn (by omega) (by omega) (hu.bel hX))
  have HT := hide (fun (h1 : n ≤ 1048576) (h2 : ∀ j ∈ J, j.sn ≤ 1048576) X (hX : Below w.heap.size w X) => jb_to u p po n c J X hl h1 h2 (hu.bel hX))
  have HTS := hide (fun (h1 : k ≤ 1048576) X (hX : Below w.heap.size w X) => sl_to v r0 ro k d P X hpl h1 (hv.bel hX))
  have HE := hide (fun (h1 : n ≤ 1048576) g g' J1 J2 X (ha : Alike J J1) (ha2 : Alike J J2) (hs : ∀ j ∈ J1, j.sn ≤ 1048576) (hX : Jbs X (some ⟨g, 0, none⟩) g 0 J1) (hY : Jbs X (some ⟨g', 0, none⟩) g' 0 J2) => jb_same (some ⟨g, 0, none⟩) (some ⟨g', 0, none⟩) g 0 g' 0 n n n J1 J2 X (by rw [ha.len, hl]) h1 hs (Alike.trans ha.symm ha2) hX hY)
  have HES := hide (fun (h1 : k ≤ 1048576) g g' X (hX : vb X g 71 (flatG slc P)) (hY : vb X g' 71 (flatG slc P)) => sl_same (some ⟨g, 0, none⟩) (some ⟨g', 0, none⟩) g 0 g' 0 k k k P X hpl h1 (hX.slG slc_len') (hY.slG slc_len'))
  have HKJ := hide (fun (h1 : n ≤ 1048576) B E g J1 X (ha : Alike J J1) (hX : Jown X B E g J1) => jb_mark B E g n n 1 J1 X (by rw [ha.len, hl]) h1 (by omega) (by omega) hX)
  have HKS := hide (fun (h1 : k ≤ 1048576) g (a : Nat) X (ha : a ≤ 100000000000000) (hX : vb X g 71 (flatG slc P)) => sl_mark g k k P (a : Int) X hpl h1 (by omega) (by omega) hX)
  have HTL := hide hT
  have k0' : (0 : Int) ≤ (k : Int) := Int.natCast_nonneg _
  clear hu hl hv hpl hT
  go_enter Try.func5, Try.ntmps5
  go_wp2_with fail
  refine (unhide HZ _ (unhide HB0)).mono ?_
  rintro e W0 ⟨⟨r, rfl, hr⟩, hb0⟩
  have v0 := (unhide HV).bel hb0
  have k0 := v0.cell (m := 0) rfl
  have k1 := v0.cell (m := 1) rfl
  have k2 := v0.cell (m := 2) rfl
  have HV0 := hide v0
  have HB1 := hide (bc (unhide HB0) hb0)
  clear hb0 v0
  rcases hr with rfl | ⟨r0', r1, r2, r3⟩
  · go_wp2_with fail
    go_ret
    exact ⟨rfl, unhide HB1⟩
  have rz : decide (r < 0) = false := decide_eq_false (by omega)
  have n20 : n ≤ 1048576 := by omega
  have HT := hide (unhide HT n20 r3)
  have HE := hide (unhide HE n20)
  have HKJ := hide (unhide HKJ n20)
  clear r3
  by_cases hkr : (k : Int) ≤ r
  rotate_left
  · have HZ2 := hide (fun X => sl_sz_out v k d r X (by omega) (by omega) (by omega) hk)
    go_wp2_with fail
    refine (unhide HZ2 _).mono ?_
    rintro e X1 ⟨rfl, rfl⟩
    go_wp2_with fail
    go_ret
    exact ⟨rfl, unhide HB1⟩
  have HZ2 := hide (fun X => sl_sz_in v k d r X (by omega) hkr)
  have rz2 : decide (r - (k : Int) < 0) = false := decide_eq_false (by omega)
  have k20 : k ≤ 1048576 := by omega
  have HTS := hide (unhide HTS k20)
  have HES := hide (unhide HES k20)
  have HKS := hide (unhide HKS k20)
  go_wp2_with fail
  refine (unhide HZ2 _).mono ?_
  rintro e X1 ⟨rfl, rfl⟩
  clear HB0 HV
  go_wp2_with fail
  refine (shop_conv N S L _).mono ?_
  rintro e W1 ⟨rfl, hb⟩
  have K1 := hide (bc (unhide HB1) hb)
  have K2 := hide ((unhide HV0).bel hb)
  clear hb k0 k1 k2
  go_wp2_with fail
  refine (unhide HT _ (unhide K1)).mono ?_
  rintro e W2 ⟨⟨g2, J2, rfl, ha2, hk2⟩, hb⟩
  have K3 := hide (bc (unhide K1) hb)
  have K4 := hide ((unhide K2).bel hb)
  have K5 := hide (hk2.jbs)
  have HA2 := hide ha2
  clear hb hk2 ha2
  go_wp2_with fail
  refine (unhide HTS _ (unhide K3)).mono ?_
  rintro e W3 ⟨⟨g3, rfl, hg3, hs3⟩, hb⟩
  have K6 := hide (bc (unhide K3) hb)
  have K7 := hide ((unhide K4).bel hb)
  have K8 := hide ((unhide K5).bel hb)
  have K9 := hide (hs3)
  clear hb hg3 hs3
  go_wp2_with fail
  refine (unhide HM _ _ _ _ _ _ (unhide K8) (unhide HA2) (unhide K9)).mono ?_
  rintro e W4 ⟨⟨g4, lg4, rfl, ig4⟩, hb⟩
  have K10 := hide (bc (unhide K6) hb)
  have K11 := hide ((unhide K7).bel hb)
  have K12 := hide (ig4)
  have L4 := hide ig4.lt
  clear lg4 ig4
  have Z4 := hide (unhide K11).lt
  have al := ba (Below.refl W4.heap.size W4) (.cells #[.int .i64 e1, .int .i64 e2, .int .i64 e3, .int .i64 e4, .slice (some ⟨g4, 0, none⟩) m m] 43)
  have K13 := hide (bc (unhide K10) al)
  have K14 := hide ((unhide K11).bel al)
  have K15 := hide ((unhide K12).bel al)
  have K16 := hide (vb_new W4 43 [.int .i64 e1, .int .i64 e2, .int .i64 e3, .int .i64 e4, .slice (some ⟨g4, 0, none⟩) m m] W4.heap.size rfl)
  have ZA : Hid ((W4.alloc (.cells #[.int .i64 e1, .int .i64 e2, .int .i64 e3, .int .i64 e4, .slice (some ⟨g4, 0, none⟩) m m] 43)).heap.size = W4.heap.size + 1) := hide (by simp)
  clear hb al
  go_wp2_with fail
  refine (unhide HT _ (unhide K13)).mono ?_
  rintro e W5 ⟨⟨g5, J5, rfl, ha5, hk5⟩, hb⟩
  have K17 := hide (bc (unhide K13) hb)
  have K18 := hide ((unhide K14).bel hb)
  have K19 := hide ((unhide K15).bel hb)
  have K20 := hide ((unhide K16).bel hb)
  have HSN5 := hide (fun j hj => (hk5.each j hj).1.most)
  have Z5 := hide hb.size
  have K21 := hide (hk5)
  have HA5 := hide ha5
  clear hb hk5 ha5
  go_wp2_with fail
  refine (unhide HTS _ (unhide K17)).mono ?_
  rintro e W6 ⟨⟨g6, rfl, hg6, hs6⟩, hb⟩
  have K22 := hide (bc (unhide K17) hb)
  have K23 := hide ((unhide K18).bel hb)
  have K24 := hide ((unhide K19).bel hb)
  have K25 := hide ((unhide K20).bel hb)
  have K26 := hide ((unhide K21).bel hb)
  have G6 : Hid (W5.heap.size ≤ g6 ∧ g6 < W6.heap.size) := hide ⟨hg6, hs6.lt⟩
  have K27 := hide (hs6)
  clear hb hg6 hs6
  have k0 := (unhide K23).cell (m := 0) rfl
  have k1 := (unhide K23).cell (m := 1) rfl
  have k2 := (unhide K23).cell (m := 2) rfl
  have klt := (unhide K23).lt
  go_wp2_with fail
  refine (shop_conv N S L _).mono ?_
  rintro e W7 ⟨rfl, hb⟩
  have K28 := hide (bc (unhide K22) hb)
  have K29 := hide ((unhide K23).bel hb)
  have K30 := hide ((unhide K24).bel hb)
  have K31 := hide ((unhide K25).bel hb)
  have K32 := hide ((unhide K26).bel hb)
  have K33 := hide ((unhide K27).bel hb)
  have Z7 := hide hb.size
  clear hb k0 k1 k2 klt
  go_wp2_with fail
  refine (unhide HP _ _ _ _ _ _ (unhide K32).jbs (unhide HA5) (unhide K33)).mono ?_
  rintro e W8 ⟨⟨g8, lg8, rfl, ig8⟩, hb⟩
  have K34 := hide (bc (unhide K28) hb)
  have K35 := hide ((unhide K29).bel hb)
  have K36 := hide ((unhide K30).bel hb)
  have K37 := hide ((unhide K31).bel hb)
  have K38 := hide ((unhide K32).bel hb)
  have K39 := hide ((unhide K33).bel hb)
  have Z8 := hide hb.size
  have K40 := hide (ig8)
  have G8 : Hid (W7.heap.size ≤ g8 ∧ g8 < W8.heap.size) := hide ⟨lg8, ig8.lt⟩
  clear lg8 ig8
  have x0 := (unhide K37).cell (m := 0) rfl
  have x1 := (unhide K37).cell (m := 1) rfl
  have x2 := (unhide K37).cell (m := 2) rfl
  have x3 := (unhide K37).cell (m := 3) rfl
  have x4 := (unhide K37).cell (m := 4) rfl
  have xlt := (unhide K37).lt
  have al := ba (Below.refl W8.heap.size W8) (.cells #[.int .i64 e1, .int .i64 e2, .int .i64 e3, .int .i64 e4, .slice (some ⟨g8, 0, none⟩) m m] 43)
  have K41 := hide (bc (unhide K34) al)
  have K42 := hide ((unhide K35).bel al)
  have K43 := hide ((unhide K36).bel al)
  have K44 := hide ((unhide K37).bel al)
  have K45 := hide ((unhide K38).bel al)
  have K46 := hide ((unhide K39).bel al)
  have K47 := hide ((unhide K40).bel al)
  have K48 := hide (vb_new W8 43 [.int .i64 e1, .int .i64 e2, .int .i64 e3, .int .i64 e4, .slice (some ⟨g8, 0, none⟩) m m] W8.heap.size rfl)
  clear hb al
  go_wp2_with fail
  refine ((lgE_same e1 e2 e3 e4 (some ⟨g8, 0, none⟩) (some ⟨g4, 0, none⟩) g8 0 g4 0 m m m T _ (unhide HTL) hm (unhide K47).its (unhide K43).its)).mono ?_
  rintro e W9 ⟨rfl, hb⟩
  have K49 := hide (bc (unhide K41) hb)
  have K50 := hide ((unhide K42).bel hb)
  have K51 := hide ((unhide K43).bel hb)
  have K52 := hide ((unhide K44).bel hb)
  have K53 := hide ((unhide K45).bel hb)
  have K54 := hide ((unhide K46).bel hb)
  have K55 := hide ((unhide K47).bel hb)
  have K56 := hide ((unhide K48).bel hb)
  clear hb
  clear x0 x1 x2 x3 x4 xlt
  go_wp2_with fail
  refine (unhide HT _ (unhide K49)).mono ?_
  rintro e WA ⟨⟨gA, JA, rfl, haA, hkA⟩, hb⟩
  have K57 := hide (bc (unhide K49) hb)
  have K58 := hide ((unhide K50).bel hb)
  have K59 := hide ((unhide K51).bel hb)
  have K60 := hide ((unhide K52).bel hb)
  have K61 := hide ((unhide K53).bel hb)
  have K62 := hide ((unhide K54).bel hb)
  have K63 := hide ((unhide K55).bel hb)
  have K64 := hide ((unhide K56).bel hb)
  have K65 := hide (hkA.jbs)
  have HAA := hide haA
  clear hb hkA haA
  go_wp2_with fail
  refine (unhide HE _ _ _ _ _ (unhide HA5) (unhide HAA) (unhide HSN5) (unhide K61).jbs (unhide K65)).mono ?_
  rintro e WB ⟨rfl, hb⟩
  have K66 := hide (bc (unhide K57) hb)
  have K67 := hide ((unhide K58).bel hb)
  have K68 := hide ((unhide K59).bel hb)
  have K69 := hide ((unhide K60).bel hb)
  have K70 := hide ((unhide K61).bel hb)
  have K71 := hide ((unhide K62).bel hb)
  have K72 := hide ((unhide K63).bel hb)
  have K73 := hide ((unhide K64).bel hb)
  clear hb
  go_wp2_with fail
  refine (unhide HTS _ (unhide K66)).mono ?_
  rintro e WC ⟨⟨gC, rfl, hgC, hsC⟩, hb⟩
  have K74 := hide (bc (unhide K66) hb)
  have K75 := hide ((unhide K67).bel hb)
  have K76 := hide ((unhide K68).bel hb)
  have K77 := hide ((unhide K69).bel hb)
  have K78 := hide ((unhide K70).bel hb)
  have K79 := hide ((unhide K71).bel hb)
  have K80 := hide ((unhide K72).bel hb)
  have K81 := hide ((unhide K73).bel hb)
  have K82 := hide (hsC)
  clear hb hgC hsC
  go_wp2_with fail
  refine (unhide HES _ _ _ (unhide K79) (unhide K82)).mono ?_
  rintro e WD ⟨rfl, hb⟩
  have K83 := hide (bc (unhide K74) hb)
  have K84 := hide ((unhide K75).bel hb)
  have K85 := hide ((unhide K76).bel hb)
  have K86 := hide ((unhide K77).bel hb)
  have K87 := hide ((unhide K78).bel hb)
  have K88 := hide ((unhide K79).bel hb)
  have K89 := hide ((unhide K80).bel hb)
  have K90 := hide ((unhide K81).bel hb)
  clear hb
  go_wp2_with fail
  refine (unhide HKJ _ _ _ _ _ (unhide HA5) (unhide K87)).mono ?_
  rintro e WE ⟨⟨ke, rfl, ke0, ke1⟩, hmE⟩
  have z0 := unhide Z4
  have z1 := unhide ZA
  have z2 := unhide Z5
  have z3 := unhide G6
  have z4 := unhide Z7
  have z5 := unhide Z8
  have z6 := unhide L4
  have z7 := unhide G8
  have zz := (unhide K83).size
  have K91 := hide ((unhide K83).trans (hmE.bel zz (fun q hq => by omega)))
  have K92 := hide ((unhide K84).mw hmE (by omega))
  have K93 := hide (iblk_mw (unhide K85) hmE (by omega))
  have K94 := hide ((unhide K86).mw hmE (by omega))
  have K95 := hide ((unhide K88).mw hmE (by omega))
  have K96 := hide (iblk_mw (unhide K89) hmE (by omega))
  have K97 := hide ((unhide K90).mw hmE (by omega))
  clear hmE
  clear z0 z1 z2 z3 z4 z5 z6 z7 zz
  have keb : ke ≤ 100000000000000 := by omega
  have ke2 : (0 : Int) ≤ (ke : Int) := Int.natCast_nonneg _
  clear ke0 ke1
  go_wp2_with fail
  refine (unhide HKS _ _ _ keb (unhide K95)).mono ?_
  rintro e WF ⟨rfl, hmF⟩
  have z0 := unhide Z4
  have z1 := unhide ZA
  have z2 := unhide Z5
  have z3 := unhide G6
  have z4 := unhide Z7
  have z5 := unhide Z8
  have z6 := unhide L4
  have z7 := unhide G8
  have zz := (unhide K91).size
  have K98 := hide ((unhide K91).trans (hmF.bel zz (fun q hq => by omega)))
  have K99 := hide ((unhide K92).mw hmF (by omega))
  have K100 := hide (iblk_mw (unhide K93) hmF (by omega))
  have K101 := hide ((unhide K94).mw hmF (by omega))
  have K102 := hide (iblk_mw (unhide K96) hmF (by omega))
  have K103 := hide ((unhide K97).mw hmF (by omega))
  clear hmF
  clear z0 z1 z2 z3 z4 z5 z6 z7 zz
  obtain ⟨kf, hkf⟩ : ∃ kf : Int, (ke : Int) + (k : Int) * 6 = kf := ⟨_, rfl⟩
  have kf0 : decide (kf < 0) = false := decide_eq_false (by omega)
  have kf1 : ¬ kf < 0 := by omega
  rw [hkf]
  clear hkf
  have x0 := (unhide K101).cell (m := 0) rfl
  have x1 := (unhide K101).cell (m := 1) rfl
  have x2 := (unhide K101).cell (m := 2) rfl
  have x3 := (unhide K101).cell (m := 3) rfl
  have x4 := (unhide K101).cell (m := 4) rfl
  have xlt := (unhide K101).lt
  have y0 := (unhide K103).cell (m := 0) rfl
  have y1 := (unhide K103).cell (m := 1) rfl
  have y2 := (unhide K103).cell (m := 2) rfl
  have y3 := (unhide K103).cell (m := 3) rfl
  have y4 := (unhide K103).cell (m := 4) rfl
  have ylt := (unhide K103).lt
  go_wp2_with fail
  refine ((lgE_same e1 e2 e3 e4 (some ⟨g8, 0, none⟩) (some ⟨g4, 0, none⟩) g8 0 g4 0 m m m T _ (unhide HTL) hm (unhide K102).its (unhide K100).its)).mono ?_
  rintro e WG ⟨rfl, hb⟩
  have K104 := hide (bc (unhide K98) hb)
  have K105 := hide ((unhide K99).bel hb)
  have K106 := hide ((unhide K100).bel hb)
  have K107 := hide ((unhide K101).bel hb)
  have K108 := hide ((unhide K102).bel hb)
  have K109 := hide ((unhide K103).bel hb)
  clear hb
  clear x0 x1 x2 x3 x4 xlt
  clear y0 y1 y2 y3 y4 ylt
  have y0 := (unhide K109).cell (m := 0) rfl
  have y1 := (unhide K109).cell (m := 1) rfl
  have y2 := (unhide K109).cell (m := 2) rfl
  have y3 := (unhide K109).cell (m := 3) rfl
  have y4 := (unhide K109).cell (m := 4) rfl
  have ylt := (unhide K109).lt
  go_wp2_with fail
  refine (lg_mark e1 e2 e3 e4 g8 m m T 1 _ (unhide HTL) hm (by omega) (by omega) (unhide K108)).mono ?_
  rintro e WH ⟨rfl, hjH, hmH⟩
  have z0 := unhide Z4
  have z1 := unhide ZA
  have z2 := unhide Z5
  have z3 := unhide G6
  have z4 := unhide Z7
  have z5 := unhide Z8
  have z6 := unhide L4
  have z7 := unhide G8
  have zz := (unhide K104).size
  have K110 := hide ((unhide K104).trans (hmH.bel zz (fun q hq => by omega)))
  have K111 := hide ((unhide K105).mw hmH (by omega))
  have K112 := hide (iblk_mw (unhide K106) hmH (by omega))
  have K113 := hide ((unhide K107).mw hmH (by omega))
  have K114 := hide ((unhide K109).mw hmH (by omega))
  have K115 := hide (hjH)
  clear hmH hjH
  clear z0 z1 z2 z3 z4 z5 z6 z7 zz
  clear y0 y1 y2 y3 y4 ylt
  have m0 : (0 : Int) ≤ (m : Int) := Int.natCast_nonneg _
  have mk1 : decide ((1 : Int) + (m : Int) < 0) = false := decide_eq_false (by omega)
  have mk2 : ¬ ((1 : Int) + (m : Int) < 0) := by omega
  have mk3 : ((1 : Int) + (m : Int) != 1 + (m : Int)) = false := by simp
  have y0 := (unhide K114).cell (m := 0) rfl
  have y1 := (unhide K114).cell (m := 1) rfl
  have y2 := (unhide K114).cell (m := 2) rfl
  have y3 := (unhide K114).cell (m := 3) rfl
  have y4 := (unhide K114).cell (m := 4) rfl
  have ylt := (unhide K114).lt
  go_wp2_with fail
  refine (lg_held e1 e2 e3 e4 g8 m m 1 _ hm (by omega) (by omega) (unhide K115)).mono ?_
  rintro e WI ⟨rfl, hb⟩
  have K116 := hide (bc (unhide K110) hb)
  have K117 := hide ((unhide K111).bel hb)
  have K118 := hide ((unhide K112).bel hb)
  have K119 := hide ((unhide K113).bel hb)
  have K120 := hide ((unhide K114).bel hb)
  have K121 := hide ((unhide K115).bel hb)
  clear hb
  clear y0 y1 y2 y3 y4 ylt
  have k0 := (unhide K117).cell (m := 0) rfl
  have k1 := (unhide K117).cell (m := 1) rfl
  have k2 := (unhide K117).cell (m := 2) rfl
  have klt := (unhide K117).lt
  go_wp2_with fail
  refine (shop_conv N S L _).mono ?_
  rintro e WJ ⟨rfl, hb⟩
  have K122 := hide (bc (unhide K116) hb)
  have K123 := hide ((unhide K118).bel hb)
  have K124 := hide ((unhide K119).bel hb)
  have K125 := hide ((unhide K120).bel hb)
  have K126 := hide ((unhide K121).bel hb)
  clear hb k0 k1 k2 klt
  go_wp2_with fail
  refine (unhide HT _ (unhide K122)).mono ?_
  rintro e WK ⟨⟨gK, JK, rfl, haK, hkK⟩, hb⟩
  have K127 := hide (bc (unhide K122) hb)
  have K128 := hide ((unhide K123).bel hb)
  have K129 := hide ((unhide K124).bel hb)
  have K130 := hide ((unhide K125).bel hb)
  have K131 := hide ((unhide K126).bel hb)
  have K132 := hide (hkK.jbs)
  have HAK := hide haK
  clear hb hkK haK
  go_wp2_with fail
  refine (unhide HTS _ (unhide K127)).mono ?_
  rintro e WL ⟨⟨gL, rfl, hgL, hsL⟩, hb⟩
  have K133 := hide (bc (unhide K127) hb)
  have K134 := hide ((unhide K128).bel hb)
  have K135 := hide ((unhide K129).bel hb)
  have K136 := hide ((unhide K130).bel hb)
  have K137 := hide ((unhide K131).bel hb)
  have K138 := hide ((unhide K132).bel hb)
  have K139 := hide (hsL)
  clear hb hgL hsL
  go_wp2_with fail
  refine (unhide HP _ _ _ _ _ _ (unhide K138) (unhide HAK) (unhide K139)).mono ?_
  rintro e WM ⟨⟨gM, lgM, rfl, igM⟩, hb⟩
  have K140 := hide (bc (unhide K133) hb)
  have K141 := hide ((unhide K134).bel hb)
  have K142 := hide ((unhide K135).bel hb)
  have K143 := hide ((unhide K136).bel hb)
  have K144 := hide ((unhide K137).bel hb)
  have K145 := hide (igM)
  clear lgM igM
  have x0 := (unhide K142).cell (m := 0) rfl
  have x1 := (unhide K142).cell (m := 1) rfl
  have x2 := (unhide K142).cell (m := 2) rfl
  have x3 := (unhide K142).cell (m := 3) rfl
  have x4 := (unhide K142).cell (m := 4) rfl
  have xlt := (unhide K142).lt
  have al := ba (Below.refl WM.heap.size WM) (.cells #[.int .i64 e1, .int .i64 e2, .int .i64 e3, .int .i64 e4, .slice (some ⟨gM, 0, none⟩) m m] 43)
  have K146 := hide (bc (unhide K140) al)
  have K147 := hide ((unhide K141).bel al)
  have K148 := hide ((unhide K142).bel al)
  have K149 := hide ((unhide K143).bel al)
  have K150 := hide ((unhide K144).bel al)
  have K151 := hide ((unhide K145).bel al)
  clear hb al
  go_wp2_with fail
  refine ((lgE_same e1 e2 e3 e4 (some ⟨gM, 0, none⟩) (some ⟨g4, 0, none⟩) gM 0 g4 0 m m m T _ (unhide HTL) hm (unhide K151).its (unhide K147).its)).mono ?_
  rintro e WN ⟨rfl, hb⟩
  have K152 := hide (bc (unhide K146) hb)
  have K153 := hide ((unhide K147).bel hb)
  have K154 := hide ((unhide K148).bel hb)
  have K155 := hide ((unhide K149).bel hb)
  have K156 := hide ((unhide K150).bel hb)
  clear hb
  clear x0 x1 x2 x3 x4 xlt
  have y0 := (unhide K155).cell (m := 0) rfl
  have y1 := (unhide K155).cell (m := 1) rfl
  have y2 := (unhide K155).cell (m := 2) rfl
  have y3 := (unhide K155).cell (m := 3) rfl
  have y4 := (unhide K155).cell (m := 4) rfl
  have ylt := (unhide K155).lt
  go_wp2_with fail
  refine (lg_held e1 e2 e3 e4 g8 m m 1 _ hm (by omega) (by omega) (unhide K156)).mono ?_
  rintro e WO ⟨rfl, hb⟩
  have K157 := hide (bc (unhide K152) hb)
  have K158 := hide ((unhide K153).bel hb)
  have K159 := hide ((unhide K154).bel hb)
  have K160 := hide ((unhide K155).bel hb)
  have K161 := hide ((unhide K156).bel hb)
  clear hb
  go_wp2_with fail
  go_ret
  exact ⟨rfl, (unhide K157)⟩

set_option maxRecDepth 100000 in
set_option maxHeartbeats 4000000 in
theorem fnExactLedgerOf_bad (N S L : Int) (u : Option Addr) (n c p po : Nat) (J : List Jb) (v : Option Addr) (k d r0 ro : Nat) (P : List Slt) (w : World) (hn : n ≤ 9223372036854775807) (hl : J.length = n) (hu : Jbs w u p po J) (hk : k ≤ 9223372036854775807) (hpl : P.length = k) (hv : SlG slc 6 w v r0 ro P)
    (cc : Int) (HM : Hid (∀ g c J' h d X, Jbs X (some ⟨g, 0, none⟩) g 0 J' → Alike J J' → vb X h 71 (flatG slc P) → Calls Try.prog 18 #[.agg #[.int .i64 N, .int .i64 S, .int .i64 L], .slice (some ⟨g, 0, none⟩) n c, .slice (some ⟨h, 0, none⟩) k d] X fun e w' => e = .returned (.tuple #[.agg #[.int .i64 0, .int .i64 0, .int .i64 0, .int .i64 0, .slice none 0 0], .int .i64 cc]) ∧ Below X.heap.size X w')) (HP : Hid (∀ g c J' h d X, Jbs X (some ⟨g, 0, none⟩) g 0 J' → Alike J J' → vb X h 71 (flatG slc P) → Calls Try.prog 19 #[.agg #[.int .i64 N, .int .i64 S, .int .i64 L], .slice (some ⟨g, 0, none⟩) n c, .slice (some ⟨h, 0, none⟩) k d] X fun e w' => e = .returned (.tuple #[.agg #[.int .i64 0, .int .i64 0, .int .i64 0, .int .i64 0, .slice none 0 0], .int .i64 cc]) ∧ Below X.heap.size X w')) :
    Calls Try.prog 5 #[.agg #[.int .i64 N, .int .i64 S, .int .i64 L], .slice u n c, .slice v k d] w fun e w' => e = .returned (.bool true) ∧ Below w.heap.size w w' := by
  have HB0 := hide (ba (Below.refl w.heap.size w) (.cells #[.int .i64 N, .int .i64 S, .int .i64 L] 23))
  have HV := hide (vb_new w 23 [.int .i64 N, .int .i64 S, .int .i64 L] w.heap.size rfl)
  have HZ := hide (fun X (hX : Below w.heap.size w X) => jb_sz u p po n c J 1048576 X hl hn (by omega) (by omega) (hu.bel hX))
  have HT := hide (fun (h1 : n ≤ 1048576) (h2 : ∀ j ∈ J, j.sn ≤ 1048576) X (hX : Below w.heap.size w X) => jb_to u p po n c J X hl h1 h2 (hu.bel hX))
  have HTS := hide (fun (h1 : k ≤ 1048576) X (hX : Below w.heap.size w X) => sl_to v r0 ro k d P X hpl h1 (hv.bel hX))
  have HE := hide (fun (h1 : n ≤ 1048576) g g' J1 J2 X (ha : Alike J J1) (ha2 : Alike J J2) (hs : ∀ j ∈ J1, j.sn ≤ 1048576) (hX : Jbs X (some ⟨g, 0, none⟩) g 0 J1) (hY : Jbs X (some ⟨g', 0, none⟩) g' 0 J2) => jb_same (some ⟨g, 0, none⟩) (some ⟨g', 0, none⟩) g 0 g' 0 n n n J1 J2 X (by rw [ha.len, hl]) h1 hs (Alike.trans ha.symm ha2) hX hY)
  have HES := hide (fun (h1 : k ≤ 1048576) g g' X (hX : vb X g 71 (flatG slc P)) (hY : vb X g' 71 (flatG slc P)) => sl_same (some ⟨g, 0, none⟩) (some ⟨g', 0, none⟩) g 0 g' 0 k k k P X hpl h1 (hX.slG slc_len') (hY.slG slc_len'))
  have HKJ := hide (fun (h1 : n ≤ 1048576) B E g J1 X (ha : Alike J J1) (hX : Jown X B E g J1) => jb_mark B E g n n 1 J1 X (by rw [ha.len, hl]) h1 (by omega) (by omega) hX)
  have HKS := hide (fun (h1 : k ≤ 1048576) g (a : Nat) X (ha : a ≤ 100000000000000) (hX : vb X g 71 (flatG slc P)) => sl_mark g k k P (a : Int) X hpl h1 (by omega) (by omega) hX)
  have bn : (cc != cc) = false := by simp
  have k0' : (0 : Int) ≤ (k : Int) := Int.natCast_nonneg _
  clear hu hl hv hpl
  go_enter Try.func5, Try.ntmps5
  go_wp2_with fail
  refine (unhide HZ _ (unhide HB0)).mono ?_
  rintro e W0 ⟨⟨r, rfl, hr⟩, hb0⟩
  have v0 := (unhide HV).bel hb0
  have k0 := v0.cell (m := 0) rfl
  have k1 := v0.cell (m := 1) rfl
  have k2 := v0.cell (m := 2) rfl
  have HV0 := hide v0
  have HB1 := hide (bc (unhide HB0) hb0)
  clear hb0 v0
  rcases hr with rfl | ⟨r0', r1, r2, r3⟩
  · go_wp2_with fail
    go_ret
    exact ⟨rfl, unhide HB1⟩
  have rz : decide (r < 0) = false := decide_eq_false (by omega)
  have n20 : n ≤ 1048576 := by omega
  have HT := hide (unhide HT n20 r3)
  have HE := hide (unhide HE n20)
  have HKJ := hide (unhide HKJ n20)
  clear r3
  by_cases hkr : (k : Int) ≤ r
  rotate_left
  · have HZ2 := hide (fun X => sl_sz_out v k d r X (by omega) (by omega) (by omega) hk)
    go_wp2_with fail
    refine (unhide HZ2 _).mono ?_
    rintro e X1 ⟨rfl, rfl⟩
    go_wp2_with fail
    go_ret
    exact ⟨rfl, unhide HB1⟩
  have HZ2 := hide (fun X => sl_sz_in v k d r X (by omega) hkr)
  have rz2 : decide (r - (k : Int) < 0) = false := decide_eq_false (by omega)
  have k20 : k ≤ 1048576 := by omega
  have HTS := hide (unhide HTS k20)
  have HES := hide (unhide HES k20)
  have HKS := hide (unhide HKS k20)
  go_wp2_with fail
  refine (unhide HZ2 _).mono ?_
  rintro e X1 ⟨rfl, rfl⟩
  clear HB0 HV
  go_wp2_with fail
  refine (shop_conv N S L _).mono ?_
  rintro e W1 ⟨rfl, hb⟩
  have K1 := hide (bc (unhide HB1) hb)
  have K2 := hide ((unhide HV0).bel hb)
  clear hb k0 k1 k2
  go_wp2_with fail
  refine (unhide HT _ (unhide K1)).mono ?_
  rintro e W2 ⟨⟨g2, J2, rfl, ha2, hk2⟩, hb⟩
  have K3 := hide (bc (unhide K1) hb)
  have K4 := hide ((unhide K2).bel hb)
  have K5 := hide (hk2.jbs)
  have HA2 := hide ha2
  clear hb hk2 ha2
  go_wp2_with fail
  refine (unhide HTS _ (unhide K3)).mono ?_
  rintro e W3 ⟨⟨g3, rfl, hg3, hs3⟩, hb⟩
  have K6 := hide (bc (unhide K3) hb)
  have K7 := hide ((unhide K4).bel hb)
  have K8 := hide ((unhide K5).bel hb)
  have K9 := hide (hs3)
  clear hb hg3 hs3
  go_wp2_with fail
  refine (unhide HM _ _ _ _ _ _ (unhide K8) (unhide HA2) (unhide K9)).mono ?_
  rintro e W4 ⟨rfl, hb⟩
  have K10 := hide (bc (unhide K6) hb)
  have K11 := hide ((unhide K7).bel hb)
  have Z4 := hide (unhide K11).lt
  have al := ba (Below.refl W4.heap.size W4) (.cells #[.int .i64 0, .int .i64 0, .int .i64 0, .int .i64 0, .slice none 0 0] 43)
  have K12 := hide (bc (unhide K10) al)
  have K13 := hide ((unhide K11).bel al)
  have K14 := hide (vb_new W4 43 [.int .i64 0, .int .i64 0, .int .i64 0, .int .i64 0, .slice none 0 0] W4.heap.size rfl)
  have ZA : Hid ((W4.alloc (.cells #[.int .i64 0, .int .i64 0, .int .i64 0, .int .i64 0, .slice none 0 0] 43)).heap.size = W4.heap.size + 1) := hide (by simp)
  clear hb al
  go_wp2_with fail
  refine (unhide HT _ (unhide K12)).mono ?_
  rintro e W5 ⟨⟨g5, J5, rfl, ha5, hk5⟩, hb⟩
  have K15 := hide (bc (unhide K12) hb)
  have K16 := hide ((unhide K13).bel hb)
  have K17 := hide ((unhide K14).bel hb)
  have HSN5 := hide (fun j hj => (hk5.each j hj).1.most)
  have Z5 := hide hb.size
  have K18 := hide (hk5)
  have HA5 := hide ha5
  clear hb hk5 ha5
  go_wp2_with fail
  refine (unhide HTS _ (unhide K15)).mono ?_
  rintro e W6 ⟨⟨g6, rfl, hg6, hs6⟩, hb⟩
  have K19 := hide (bc (unhide K15) hb)
  have K20 := hide ((unhide K16).bel hb)
  have K21 := hide ((unhide K17).bel hb)
  have K22 := hide ((unhide K18).bel hb)
  have G6 : Hid (W5.heap.size ≤ g6 ∧ g6 < W6.heap.size) := hide ⟨hg6, hs6.lt⟩
  have K23 := hide (hs6)
  clear hb hg6 hs6
  have k0 := (unhide K20).cell (m := 0) rfl
  have k1 := (unhide K20).cell (m := 1) rfl
  have k2 := (unhide K20).cell (m := 2) rfl
  have klt := (unhide K20).lt
  go_wp2_with fail
  refine (shop_conv N S L _).mono ?_
  rintro e W7 ⟨rfl, hb⟩
  have K24 := hide (bc (unhide K19) hb)
  have K25 := hide ((unhide K20).bel hb)
  have K26 := hide ((unhide K21).bel hb)
  have K27 := hide ((unhide K22).bel hb)
  have K28 := hide ((unhide K23).bel hb)
  have Z7 := hide hb.size
  clear hb k0 k1 k2 klt
  go_wp2_with fail
  refine (unhide HP _ _ _ _ _ _ (unhide K27).jbs (unhide HA5) (unhide K28)).mono ?_
  rintro e W8 ⟨rfl, hb⟩
  have K29 := hide (bc (unhide K24) hb)
  have K30 := hide ((unhide K25).bel hb)
  have K31 := hide ((unhide K26).bel hb)
  have K32 := hide ((unhide K27).bel hb)
  have K33 := hide ((unhide K28).bel hb)
  have Z8 := hide hb.size
  have x0 := (unhide K31).cell (m := 0) rfl
  have x1 := (unhide K31).cell (m := 1) rfl
  have x2 := (unhide K31).cell (m := 2) rfl
  have x3 := (unhide K31).cell (m := 3) rfl
  have x4 := (unhide K31).cell (m := 4) rfl
  have xlt := (unhide K31).lt
  have al := ba (Below.refl W8.heap.size W8) (.cells #[.int .i64 0, .int .i64 0, .int .i64 0, .int .i64 0, .slice none 0 0] 43)
  have K34 := hide (bc (unhide K29) al)
  have K35 := hide ((unhide K30).bel al)
  have K36 := hide ((unhide K31).bel al)
  have K37 := hide ((unhide K32).bel al)
  have K38 := hide ((unhide K33).bel al)
  have K39 := hide (vb_new W8 43 [.int .i64 0, .int .i64 0, .int .i64 0, .int .i64 0, .slice none 0 0] W8.heap.size rfl)
  clear hb al
  go_wp2_with fail
  refine ((lgE_same 0 0 0 0 none none 0 0 0 0 0 0 0 [] _ rfl (by omega) (fun h => absurd rfl h) (fun h => absurd rfl h))).mono ?_
  rintro e W9 ⟨rfl, hb⟩
  have K40 := hide (bc (unhide K34) hb)
  have K41 := hide ((unhide K35).bel hb)
  have K42 := hide ((unhide K36).bel hb)
  have K43 := hide ((unhide K37).bel hb)
  have K44 := hide ((unhide K38).bel hb)
  have K45 := hide ((unhide K39).bel hb)
  clear hb
  clear x0 x1 x2 x3 x4 xlt
  go_wp2_with fail
  refine (unhide HT _ (unhide K40)).mono ?_
  rintro e WA ⟨⟨gA, JA, rfl, haA, hkA⟩, hb⟩
  have K46 := hide (bc (unhide K40) hb)
  have K47 := hide ((unhide K41).bel hb)
  have K48 := hide ((unhide K42).bel hb)
  have K49 := hide ((unhide K43).bel hb)
  have K50 := hide ((unhide K44).bel hb)
  have K51 := hide ((unhide K45).bel hb)
  have K52 := hide (hkA.jbs)
  have HAA := hide haA
  clear hb hkA haA
  go_wp2_with fail
  refine (unhide HE _ _ _ _ _ (unhide HA5) (unhide HAA) (unhide HSN5) (unhide K49).jbs (unhide K52)).mono ?_
  rintro e WB ⟨rfl, hb⟩
  have K53 := hide (bc (unhide K46) hb)
  have K54 := hide ((unhide K47).bel hb)
  have K55 := hide ((unhide K48).bel hb)
  have K56 := hide ((unhide K49).bel hb)
  have K57 := hide ((unhide K50).bel hb)
  have K58 := hide ((unhide K51).bel hb)
  clear hb
  go_wp2_with fail
  refine (unhide HTS _ (unhide K53)).mono ?_
  rintro e WC ⟨⟨gC, rfl, hgC, hsC⟩, hb⟩
  have K59 := hide (bc (unhide K53) hb)
  have K60 := hide ((unhide K54).bel hb)
  have K61 := hide ((unhide K55).bel hb)
  have K62 := hide ((unhide K56).bel hb)
  have K63 := hide ((unhide K57).bel hb)
  have K64 := hide ((unhide K58).bel hb)
  have K65 := hide (hsC)
  clear hb hgC hsC
  go_wp2_with fail
  refine (unhide HES _ _ _ (unhide K63) (unhide K65)).mono ?_
  rintro e WD ⟨rfl, hb⟩
  have K66 := hide (bc (unhide K59) hb)
  have K67 := hide ((unhide K60).bel hb)
  have K68 := hide ((unhide K61).bel hb)
  have K69 := hide ((unhide K62).bel hb)
  have K70 := hide ((unhide K63).bel hb)
  have K71 := hide ((unhide K64).bel hb)
  clear hb
  go_wp2_with fail
  refine (unhide HKJ _ _ _ _ _ (unhide HA5) (unhide K69)).mono ?_
  rintro e WE ⟨⟨ke, rfl, ke0, ke1⟩, hmE⟩
  have z0 := unhide Z4
  have z1 := unhide ZA
  have z2 := unhide Z5
  have z3 := unhide G6
  have z4 := unhide Z7
  have z5 := unhide Z8
  have zz := (unhide K66).size
  have K72 := hide ((unhide K66).trans (hmE.bel zz (fun q hq => by omega)))
  have K73 := hide ((unhide K67).mw hmE (by omega))
  have K74 := hide ((unhide K68).mw hmE (by omega))
  have K75 := hide ((unhide K70).mw hmE (by omega))
  have K76 := hide ((unhide K71).mw hmE (by omega))
  clear hmE
  clear z0 z1 z2 z3 z4 z5 zz
  have keb : ke ≤ 100000000000000 := by omega
  have ke2 : (0 : Int) ≤ (ke : Int) := Int.natCast_nonneg _
  clear ke0 ke1
  go_wp2_with fail
  refine (unhide HKS _ _ _ keb (unhide K75)).mono ?_
  rintro e WF ⟨rfl, hmF⟩
  have z0 := unhide Z4
  have z1 := unhide ZA
  have z2 := unhide Z5
  have z3 := unhide G6
  have z4 := unhide Z7
  have z5 := unhide Z8
  have zz := (unhide K72).size
  have K77 := hide ((unhide K72).trans (hmF.bel zz (fun q hq => by omega)))
  have K78 := hide ((unhide K73).mw hmF (by omega))
  have K79 := hide ((unhide K74).mw hmF (by omega))
  have K80 := hide ((unhide K76).mw hmF (by omega))
  clear hmF
  clear z0 z1 z2 z3 z4 z5 zz
  obtain ⟨kf, hkf⟩ : ∃ kf : Int, (ke : Int) + (k : Int) * 6 = kf := ⟨_, rfl⟩
  have kf0 : decide (kf < 0) = false := decide_eq_false (by omega)
  have kf1 : ¬ kf < 0 := by omega
  rw [hkf]
  clear hkf
  have x0 := (unhide K79).cell (m := 0) rfl
  have x1 := (unhide K79).cell (m := 1) rfl
  have x2 := (unhide K79).cell (m := 2) rfl
  have x3 := (unhide K79).cell (m := 3) rfl
  have x4 := (unhide K79).cell (m := 4) rfl
  have xlt := (unhide K79).lt
  have y0 := (unhide K80).cell (m := 0) rfl
  have y1 := (unhide K80).cell (m := 1) rfl
  have y2 := (unhide K80).cell (m := 2) rfl
  have y3 := (unhide K80).cell (m := 3) rfl
  have y4 := (unhide K80).cell (m := 4) rfl
  have ylt := (unhide K80).lt
  go_wp2_with fail
  refine ((lgE_same 0 0 0 0 none none 0 0 0 0 0 0 0 [] _ rfl (by omega) (fun h => absurd rfl h) (fun h => absurd rfl h))).mono ?_
  rintro e WG ⟨rfl, hb⟩
  have K81 := hide (bc (unhide K77) hb)
  have K82 := hide ((unhide K78).bel hb)
  have K83 := hide ((unhide K79).bel hb)
  have K84 := hide ((unhide K80).bel hb)
  clear hb
  clear x0 x1 x2 x3 x4 xlt
  clear y0 y1 y2 y3 y4 ylt
  have y0 := (unhide K84).cell (m := 0) rfl
  have y1 := (unhide K84).cell (m := 1) rfl
  have y2 := (unhide K84).cell (m := 2) rfl
  have y3 := (unhide K84).cell (m := 3) rfl
  have y4 := (unhide K84).cell (m := 4) rfl
  have ylt := (unhide K84).lt
  go_wp2_with fail
  refine (lg_mark0 0 0 0 0 1 _ (by omega) (by omega)).mono ?_
  rintro e WH ⟨rfl, hb⟩
  have K85 := hide (bc (unhide K81) hb)
  have K86 := hide ((unhide K82).bel hb)
  have K87 := hide ((unhide K83).bel hb)
  have K88 := hide ((unhide K84).bel hb)
  clear hb
  clear y0 y1 y2 y3 y4 ylt
  have y0 := (unhide K88).cell (m := 0) rfl
  have y1 := (unhide K88).cell (m := 1) rfl
  have y2 := (unhide K88).cell (m := 2) rfl
  have y3 := (unhide K88).cell (m := 3) rfl
  have y4 := (unhide K88).cell (m := 4) rfl
  have ylt := (unhide K88).lt
  go_wp2_with fail
  refine (lg_held0 0 0 0 0 1 _ (by omega) (by omega)).mono ?_
  rintro e WI ⟨rfl, hb⟩
  have K89 := hide (bc (unhide K85) hb)
  have K90 := hide ((unhide K86).bel hb)
  have K91 := hide ((unhide K87).bel hb)
  have K92 := hide ((unhide K88).bel hb)
  clear hb
  clear y0 y1 y2 y3 y4 ylt
  have k0 := (unhide K90).cell (m := 0) rfl
  have k1 := (unhide K90).cell (m := 1) rfl
  have k2 := (unhide K90).cell (m := 2) rfl
  have klt := (unhide K90).lt
  go_wp2_with fail
  refine (shop_conv N S L _).mono ?_
  rintro e WJ ⟨rfl, hb⟩
  have K93 := hide (bc (unhide K89) hb)
  have K94 := hide ((unhide K91).bel hb)
  have K95 := hide ((unhide K92).bel hb)
  clear hb k0 k1 k2 klt
  go_wp2_with fail
  refine (unhide HT _ (unhide K93)).mono ?_
  rintro e WK ⟨⟨gK, JK, rfl, haK, hkK⟩, hb⟩
  have K96 := hide (bc (unhide K93) hb)
  have K97 := hide ((unhide K94).bel hb)
  have K98 := hide ((unhide K95).bel hb)
  have K99 := hide (hkK.jbs)
  have HAK := hide haK
  clear hb hkK haK
  go_wp2_with fail
  refine (unhide HTS _ (unhide K96)).mono ?_
  rintro e WL ⟨⟨gL, rfl, hgL, hsL⟩, hb⟩
  have K100 := hide (bc (unhide K96) hb)
  have K101 := hide ((unhide K97).bel hb)
  have K102 := hide ((unhide K98).bel hb)
  have K103 := hide ((unhide K99).bel hb)
  have K104 := hide (hsL)
  clear hb hgL hsL
  go_wp2_with fail
  refine (unhide HP _ _ _ _ _ _ (unhide K103) (unhide HAK) (unhide K104)).mono ?_
  rintro e WM ⟨rfl, hb⟩
  have K105 := hide (bc (unhide K100) hb)
  have K106 := hide ((unhide K101).bel hb)
  have K107 := hide ((unhide K102).bel hb)
  have x0 := (unhide K106).cell (m := 0) rfl
  have x1 := (unhide K106).cell (m := 1) rfl
  have x2 := (unhide K106).cell (m := 2) rfl
  have x3 := (unhide K106).cell (m := 3) rfl
  have x4 := (unhide K106).cell (m := 4) rfl
  have xlt := (unhide K106).lt
  have al := ba (Below.refl WM.heap.size WM) (.cells #[.int .i64 0, .int .i64 0, .int .i64 0, .int .i64 0, .slice none 0 0] 43)
  have K108 := hide (bc (unhide K105) al)
  have K109 := hide ((unhide K106).bel al)
  have K110 := hide ((unhide K107).bel al)
  clear hb al
  go_wp2_with fail
  refine ((lgE_same 0 0 0 0 none none 0 0 0 0 0 0 0 [] _ rfl (by omega) (fun h => absurd rfl h) (fun h => absurd rfl h))).mono ?_
  rintro e WN ⟨rfl, hb⟩
  have K111 := hide (bc (unhide K108) hb)
  have K112 := hide ((unhide K109).bel hb)
  have K113 := hide ((unhide K110).bel hb)
  clear hb
  clear x0 x1 x2 x3 x4 xlt
  have y0 := (unhide K113).cell (m := 0) rfl
  have y1 := (unhide K113).cell (m := 1) rfl
  have y2 := (unhide K113).cell (m := 2) rfl
  have y3 := (unhide K113).cell (m := 3) rfl
  have y4 := (unhide K113).cell (m := 4) rfl
  have ylt := (unhide K113).lt
  go_wp2_with fail
  refine (lg_held0 0 0 0 0 1 _ (by omega) (by omega)).mono ?_
  rintro e WO ⟨rfl, hb⟩
  have K114 := hide (bc (unhide K111) hb)
  have K115 := hide ((unhide K112).bel hb)
  have K116 := hide ((unhide K113).bel hb)
  clear hb
  go_wp2_with fail
  go_ret
  exact ⟨rfl, (unhide K114)⟩

theorem fnExactLedgerOf_walk (N S L : Int) (u : Option Addr) (n c p po : Nat) (J : List Jb) (v : Option Addr) (k d r0 ro : Nat) (P : List Slt) (w : World) (hn : n ≤ 9223372036854775807) (hl : J.length = n) (hu : Jbs w u p po J) (hk : k ≤ 9223372036854775807) (hpl : P.length = k) (hv : SlG slc 6 w v r0 ro P) :
    Calls Try.prog 5 #[.agg #[.int .i64 N, .int .i64 S, .int .i64 L], .slice u n c, .slice v k d] w fun e w' => e = .returned (.bool true) ∧ Below w.heap.size w w' := by
  have HM : ∀ g c J' h d X, Jbs X (some ⟨g, 0, none⟩) g 0 J' → Alike J J' → vb X h 71 (flatG slc P) → Calls Try.prog 18 #[.agg #[.int .i64 N, .int .i64 S, .int .i64 L], .slice (some ⟨g, 0, none⟩) n c, .slice (some ⟨h, 0, none⟩) k d] X fun e w' => (∃ v, e = .returned v ∧ LgAns N S L J P X.heap.size v w') ∧ Below X.heap.size X w' := fun g c J' h d X hX ha hv =>
    (lgM_any N S L (some ⟨g, 0, none⟩) g 0 n c J' (some ⟨h, 0, none⟩) h 0 k d P X (by rw [ha.len, hl]) hn hX hpl hk (hv.slG slc_len')).mono fun e w' hh => ⟨hh.1.imp fun v hv => ⟨hv.1, hv.2.alike ha⟩, hh.2⟩
  have HP : ∀ g c J' h d X, Jbs X (some ⟨g, 0, none⟩) g 0 J' → Alike J J' → vb X h 71 (flatG slc P) → Calls Try.prog 19 #[.agg #[.int .i64 N, .int .i64 S, .int .i64 L], .slice (some ⟨g, 0, none⟩) n c, .slice (some ⟨h, 0, none⟩) k d] X fun e w' => (∃ v, e = .returned v ∧ LgAns N S L J P X.heap.size v w') ∧ Below X.heap.size X w' := fun g c J' h d X hX ha hv =>
    (lgP_any N S L (some ⟨g, 0, none⟩) g 0 n c J' (some ⟨h, 0, none⟩) h 0 k d P X (by rw [ha.len, hl]) hn hX hpl hk (hv.slG slc_len')).mono fun e w' hh => ⟨hh.1.imp fun v hv => ⟨hv.1, hv.2.alike ha⟩, hh.2⟩
  by_cases hz : pcC N S L J P = 0
  · have hN : N.toNat ≤ 1048576 := by
      have := (pcC_zero hz).1
      have := shOk_N this
      omega
    refine fnExactLedgerOf_good N S L u n c p po J v k d r0 ro P w hn hl hu hk hpl hv (lgE P) (lat J (hal N J P) J.length) ((lgT P : Int) * S) (lgT P : Int) N.toNat (tab N.toNat (lgF P)) (by simp [tab]) hN (hide ?_) (hide ?_)
    · intro g c J' h d X hX ha hv
      refine (HM g c J' h d X hX ha hv).mono ?_
      rintro e w' ⟨⟨v, rfl, hv⟩, hb⟩
      obtain ⟨q, h1, rfl, h3⟩ := hv.2 hz
      exact ⟨⟨q, h1, rfl, h3⟩, hb⟩
    · intro g c J' h d X hX ha hv
      refine (HP g c J' h d X hX ha hv).mono ?_
      rintro e w' ⟨⟨v, rfl, hv⟩, hb⟩
      obtain ⟨q, h1, rfl, h3⟩ := hv.2 hz
      exact ⟨⟨q, h1, rfl, h3⟩, hb⟩
  · refine fnExactLedgerOf_bad N S L u n c p po J v k d r0 ro P w hn hl hu hk hpl hv (pcC N S L J P) (hide ?_) (hide ?_)
    · intro g c J' h d X hX ha hv
      refine (HM g c J' h d X hX ha hv).mono ?_
      rintro e w' ⟨⟨v, rfl, hv⟩, hb⟩
      rw [hv.1 hz]
      exact ⟨rfl, hb⟩
    · intro g c J' h d X hX ha hv
      refine (HP g c J' h d X hX ha hv).mono ?_
      rintro e w' ⟨⟨v, rfl, hv⟩, hb⟩
      rw [hv.1 hz]
      exact ⟨rfl, hb⟩
theorem fnExactLedgerOf_own : ownKnob Try.prog.godebug = none := by kernel_rfl
theorem fnExactLedgerOf_laidOut : laidOutB Try.prog = true := by kernel_rfl
theorem cells23 : Try.prog.cellsOf 23 = 3 := by kernel_rfl

set_option maxRecDepth 100000 in
theorem fnExactLedgerOf_lifted (os : Os) (started : os.Started) (H : Type) (enc : TypeId × Value → H) :
    ReturnsInHanded {} Try.checked os 5 .any (Rows.fnExactLedgerOfSpec.pre6 enc Try.prog Try.f5 Rows.fnExactLedgerOfRow.domain false) (Rows.fnExactLedgerOfSpec.post enc Try.prog Try.f5 false true false false) := by
  refine returnsInHanded_of_change (C := Try.checked) fnExactLedgerOf_own started (by kernel_rfl) Try.func5
    (ChangeSpec.witness6 (enc := enc) (C := Try.checked) false ⟨#[], #[.agg #[.int .i64 0, .int .i64 0, .int .i64 0], .slice none 0 0, .slice none 0 0], []⟩ 8 (by kernel_rfl) (by kernel_rfl) (by kernel_rfl) (by kernel_rfl)) ?_
  intro W base args ds gs before hval0 hW hcnd _
  have hval : ∀ (j : Nat) t v, Try.f5.params[j]? = some t → args[j]? = some v → Value.okWide Try.prog W .any base t v := hval0
  have hW' := hW
  obtain ⟨p, q, hA0, hV, rfl, hfz, hnd⟩ := hW
  have hA : DataW.TrodAll enc Try.prog W 0 (fun _ => true) true Try.f5.params.toList args.toList ds p := hA0
  rw [Try.params5] at hA hval
  obtain ⟨v0, vs0, d0, ds0, p0, q0, hargs, rfl, rfl, h0, r0⟩ := trodAll_cons hA
  obtain ⟨v1, vs1, d1, ds1, p1, q1, rfl, rfl, rfl, h1, r1⟩ := trodAll_cons r0
  obtain ⟨v2, vs2, d2, ds2, p2, q2, rfl, rfl, rfl, h2, r2⟩ := trodAll_cons r1
  obtain ⟨rfl, rfl, rfl⟩ := trodAll_nil r2
  obtain rfl : args = #[v0, v1, v2] := by cases args; simp_all
  obtain ⟨rfl, rfl⟩ := trodVars_none hV
  have k0 := h0
  have lt0 : ∀ x ∈ p0, x.block < W.heap.size := by obtain ⟨m, hm⟩ := k0; exact DataW.trod_lt m _ _ _ hm
  obtain ⟨c0, e0, s0, y0, x0, z0, m0, rfl, rfl, rfl, hy0, hx0, hz0⟩ := open_agg3 Try.underlying23 (by kernel_rfl) cells23 (hval 0 23 v0 rfl rfl) h0
  obtain ⟨n0, en0, _, wn0⟩ := DataW.trod_int Try.underlying3 hy0
  obtain ⟨o0, eo0, _, wo0⟩ := DataW.trod_int Try.underlying3 hx0
  obtain ⟨r0a, er0, _, wr0⟩ := DataW.trod_int Try.underlying3 hz0
  simp at en0 eo0 er0
  subst en0 eo0 er0
  obtain ⟨a1, len1, cap1, rfl⟩ := okWide_slice Try.underlying24 (hval 1 24 v1 rfl rfl)
  have k1 := h1
  have lt1 : ∀ x ∈ p1, x.block < W.heap.size := by obtain ⟨m, hm⟩ := k1; exact DataW.trod_lt m _ _ _ hm
  obtain ⟨pp1, po1, ms1, b1, l1, w1⟩ : ∃ (pp po : Nat) (J : List Jb), len1 ≤ 9223372036854775807 ∧ J.length = len1 ∧ Jbs W a1 pp po J := by
    obtain ⟨fuel, hf⟩ := h1
    obtain ⟨u, n, cap, pp, po, ms, hcs, hn, hl, hx⟩ := open_jobs hf
    simp [Value.cells] at hcs
    obtain ⟨rfl, rfl, rfl⟩ := hcs
    exact ⟨pp, po, ms, hn, hl, hx⟩
  obtain ⟨a2, len2, cap2, rfl⟩ := okWide_slice Try.underlying33 (hval 2 33 v2 rfl rfl)
  have k2 := h2
  have lt2 : ∀ x ∈ p2, x.block < W.heap.size := by obtain ⟨m, hm⟩ := k2; exact DataW.trod_lt m _ _ _ hm
  obtain ⟨pp2, po2, ms2, b2, l2, w2⟩ : ∃ (pp po : Nat) (J : List Slt), len2 ≤ 9223372036854775807 ∧ J.length = len2 ∧ SlG slc 6 W a2 pp po J := by
    obtain ⟨fuel, hf⟩ := h2
    obtain ⟨u, n, cap, pp, po, ms, hcs, hn, hl, hx⟩ := open_slots hf
    simp [Value.cells] at hcs
    obtain ⟨rfl, rfl, rfl⟩ := hcs
    exact ⟨pp, po, ms, hn, hl, hx⟩
  clear hA0 hval0
  refine (fnExactLedgerOf_walk n0 o0 r0a a1 len1 cap1 pp1 po1 ms1 a2 len2 cap2 pp2 po2 ms2 W b1 l1 w1 b2 l2 w2).mono fun e W' ⟨he, bel⟩ => ?_
  subst he
  exact ⟨_, rfl, _, _, _, [], _, [], hW', trodAll_mk1 (shut_bool Try.underlying4 _), (trodAll_cons_mk (Below.trod fnExactLedgerOf_laidOut (by kernel_rfl) (of_decide_eq_true (by kernel_rfl)) k0 bel lt0) (trodAll_cons_mk (Below.trod fnExactLedgerOf_laidOut (by kernel_rfl) (of_decide_eq_true (by kernel_rfl)) k1 bel lt1) (trodAll_cons_mk (Below.trod fnExactLedgerOf_laidOut (by kernel_rfl) (of_decide_eq_true (by kernel_rfl)) k2 bel lt2) trodAll_mk0))), rfl, bel.frame _, fun h => by cases h⟩

theorem fnExactLedgerOf_over : Rows.fnExactLedgerOfRow.holds Try.pinned (OpenSpec.ofChange Rows.fnExactLedgerOfSpec) :=
  OpenClaim.holds_of_wide 5 Try.f5 rfl rfl rfl rfl rfl rfl rfl ⟨rfl, rfl, rfl, rfl, rfl⟩ rfl rfl rfl rfl rfl (by kernel_rfl) Try.func5 (by kernel_rfl)
    (of_decide_eq_true (by kernel_rfl)) (by unfold Func.isWrapper; first | (rw [if_pos (by decide +kernel)]; kernel_rfl) | (rw [if_neg (by decide +kernel)]; exact ⟨rfl, rfl⟩))
    (fun os started H enc _ => fnExactLedgerOf_lifted os started H enc)

/-- The statement, as it was given. -/
theorem fnExactLedgerOf_holds : Rows.FnExactLedgerOfSaid := fnExactLedgerOf_over
#print axioms fnExactLedgerOf_holds
end Go.Proofs.Ytbgekppggakdoaa
