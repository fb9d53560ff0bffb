/-
  The program's measuring of points: how far they are apart, and which way they turn.
-/
import Derived.Test.YtimkinpbimangaaFtR
import Derived.Test.YtimkinpbimangaaCommonP
import Derived.Test.YtimkinpbimangaaBnP
namespace Go.Proofs.Ytimkinpbimangaa
open Go.ChangeShapes Go.WideShapes Go.ChangeAt Go.RowKit
set_option linter.unusedVariables false
set_option linter.unusedSimpArgs false

theorem from_any (a b : Pt) (w : World) (ha : ptOk a = true) (hb : ptOk b = true) : Calls Try.prog 64 #[ptv a, ptv b] w fun e w' => e = .returned (ptv (sub a b)) ∧ Below w.heap.size w w' :=
  (sub_exact a.1 a.2 b.1 b.2 w ha hb).mono fun e w' ⟨he, hw⟩ => ⟨he, by rw [hw]; exact ba (ba (ba (Below.refl _ _) _) _) _⟩
theorem max_abs (x : Int) : max x (-x) = (x.natAbs : Int) := by omega
set_option maxHeartbeats 1000000 in
theorem steps_any (a b : Pt) (w : World) (ha : ptOk a = true) (hb : ptOk b = true) : Calls Try.prog 67 #[ptv a, ptv b] w fun e w' => e = .returned (.int .i64 (lnG (sub b a))) ∧ Below w.heap.size w w' := by
  have HF := hide (fun W => from_any b a W hb ha)
  have bd := sub_bd hb ha
  unfold lnG
  generalize sub b a = d at *
  obtain ⟨d0, d1⟩ := d
  obtain ⟨a0, a1⟩ := a
  obtain ⟨b0, b1⟩ := b
  simp only [ptv] at *
  obtain ⟨⟨p1, p2⟩, p3, p4⟩ := bd
  have m0 : max d0 (-d0) = (d0.natAbs : Int) := max_abs d0
  have m1 : max d1 (-d1) = (d1.natAbs : Int) := max_abs d1
  have q0 : (d0.natAbs : Int) ≤ 200000 := by omega
  have q1 : (d1.natAbs : Int) ≤ 200000 := by omega
  have q2 : (0 : Int) ≤ (d0.natAbs : Int) := by omega
  have q3 : (0 : Int) ≤ (d1.natAbs : Int) := by omega
  have w1 : IntKind.i64.wrap ((d0.natAbs : Int) + (d1.natAbs : Int)) = (d0.natAbs : Int) + (d1.natAbs : Int) := wrap_i (by omega) (by omega)
  clear ha hb
  go_enter Try.func67, Try.ntmps67
  go_wp2_with fail
  refine (unhide HF _).mono ?_
  rintro e W ⟨rfl, hW⟩
  have HW := hide (bc (ba (ba (Below.refl _ _) _) _) hW)
  clear hW HF
  go_wp2_with fail
  go_ret
  exact ⟨by first | rfl | (rw [m0, m1]; rfl) | simp [m0, m1, w1], ba (unhide HW) _⟩
theorem Row.grown {w w' : World} {B t k : Nat} {v : Value} {n : Nat} {L : List Int} {o : Option Nat} (h : Row w B t k v n L) (hg : w.grownBy w' o) (hd : ∀ q, v.ownBlock = some q → o ≠ some q) : Row w' B t k v n L :=
  h.kept' fun q hq => hg.block q (h.lt q hq).2 (fun e => hd q hq e.symm)
theorem vb.grown {w w' : World} {g t : Nat} {vs : List Value} {o : Option Nat} (h : vb w g t vs) (hg : w.grownBy w' o) (hd : o ≠ some g) : vb w' g t vs := (hg.block g h.lt (fun e => hd e.symm)).trans h
/-- no block in common -/
def Dj (v u : Value) : Prop := ∀ q, v.ownBlock = some q → u.ownBlock ≠ some q
theorem Dj.symm {v u : Value} (h : Dj v u) : Dj u v := fun q hq e => h q e hq
theorem Dj.new {w : World} {B t k n : Nat} {v u u' : Value} {L : List Int} (h : Dj v u) (hv : Row w B t k v n L) (hn : NewBlk w u u') : Dj v u' := by
  intro q hq e
  rcases hn q e with h1 | h1
  · exact h q hq h1
  · have := (hv.lt q hq).2; omega
/-- the last step ahead -/
def lst (pts : List Pt) (i : Nat) : Pt := if i = 0 then (0, 0) else wv pts (i - 1)
theorem lst_succ (pts : List Pt) (i : Nat) : lst pts (i + 1) = wv pts i := by unfold lst; rw [if_neg (by omega)]; rfl
/-- what holds at the head of the loop over points -/
structure Ms (w W : World) (pts : List Pt) (i : Nat) (r1 r2 : Value) : Prop where
  bel : Below w.heap.size w W
  sz : w.heap.size < W.heap.size
  c : vb W w.heap.size 32 [.int .i64 (lst pts i).1, .int .i64 (lst pts i).2]
  p : Row W (w.heap.size + 1) 3 1 r1 i (mpT pts i)
  q : Row W (w.heap.size + 1) 3 1 r2 (i - 1) (mbT pts (i - 1))
  d : Dj r1 r2
theorem nil_dj (u : Value) : Dj (.slice none 0 0) u := fun q h => by cases h
set_option maxHeartbeats 8000000 in
set_option maxRecDepth 100000 in
theorem msP_any (b po N cap : Nat) (pts : List Pt) (w : World) (hl : pts.length = N) (h2 : 2 ≤ N) (hN : N ≤ 4096) (hcap : N ≤ cap) (hok : pts.all ptOk = true) (hb : b < w.heap.size) (hc : IntsAt w b po (fl2 pts)) :
    Calls Try.prog 40 #[.slice (some ⟨b, po, none⟩) N cap] w fun e w' => (∃ r1 r2, e = .returned (.tuple #[r1, r2]) ∧ Row w' w.heap.size 3 1 r1 (N - 1) (mp pts) ∧ Row w' w.heap.size 3 1 r2 (N - 2) (mb pts) ∧ Dj r1 r2) ∧ Below w.heap.size w w' := by
  obtain ⟨M, hM⟩ : ∃ M, N = M + 1 := ⟨N - 1, by omega⟩
  have HEM : Hid (mp pts = mpT pts M ∧ mb pts = mbT pts (M - 1)) := hide (by unfold mp mb mpT mbT; rw [hl, hM]; exact ⟨rfl, rfl⟩)
  have HOK : Hid (∀ i, i < N → ptOk (ptD pts i) = true) := hide (fun i hi => ptD_ok hok (by omega))
  have HPT : Hid (∀ i, i < N → ∀ W, Below w.heap.size w W → W.cell? ⟨b, po + i * 2, none⟩ = some (.int .i64 (ptD pts i).1) ∧ W.cell? ⟨b, po + i * 2 + 1, none⟩ = some (.int .i64 (ptD pts i).2)) := hide (fun i hi W hW => by
    have hx := fl2_D (pts := pts) (i := i) (by omega)
    have hh := hc.below hW hb
    exact ⟨hh.at0 hx.1, hh.at hx.2⟩)
  have n1 : (1 : Int) ≤ (N : Int) := by omega
  have n2 : (N : Int) ≤ (cap : Int) := by omega
  have n3 : (1 : Int) ≤ (cap : Int) := by omega
  have HMN := hide hM
  have m1 : 1 ≤ M := by omega
  have m2 : M ≤ 4096 := by omega
  have wm : (N : Int) - 1 = (M : Int) := by omega
  have wm2 : N - 1 = M := by omega
  obtain ⟨iP, hi1, hp0, hp1, hp2⟩ := info_parts int_info3
  have HW0 := hide (ba (Below.refl w.heap.size w) (.cells #[.int .i64 0, .int .i64 0] 32))
  clear hc hok hl hM
  go_enter Try.func40, Try.ntmps40
  go_wp2_with fail
  go_loopw [4, 5, 13] (fun r1 r2 s W => ∃ i : Nat, s = .int .i64 (i : Int) ∧ i ≤ M ∧ Ms w W pts i r1 r2) (fun _ _ s _ => M - (intOf s).toNat)
  case atStart => exact ⟨0, rfl, Nat.zero_le _, ⟨unhide HW0, by simp, vb_new w 32 [.int .i64 0, .int .i64 0] _ rfl, ⟨rfl, .inl ⟨rfl, rfl⟩⟩, ⟨rfl, .inl ⟨rfl, rfl⟩⟩, nil_dj _⟩⟩
  case round =>
    obtain ⟨i, rfl, hi, hms⟩ := hrel
    by_cases h : i < M
    · have i1 : (i : Int) < (M : Int) := by omega
      have i0 : (0 : Int) ≤ (i : Int) := Int.natCast_nonneg _
      have iz : decide ((i : Int) < (M : Int)) = true := decide_eq_true i1
      have hNM := unhide HMN
      have hiN : i < N := by omega
      have a0 := (unhide HPT (i + 1) (by omega) _ hms.bel).1
      have a1 := (unhide HPT (i + 1) (by omega) _ hms.bel).2
      rw [show po + (i + 1) * 2 = po + 2 + i * 2 by omega] at a0 a1
      have HA := hide (unhide HPT i hiN)
      have ok0 := unhide HOK i hiN
      have ok1 := unhide HOK (i + 1) (by omega)
      have HFR := hide (fun W => from_any (ptD pts (i + 1)) (ptD pts i) W ok1 ok0)
      have HST := hide (fun W => steps_any (ptD pts i) (ptD pts (i + 1)) W ok0 ok1)
      have wb := sub_bd ok1 ok0
      have HLB : Hid ((-200000 ≤ (lst pts i).1 ∧ (lst pts i).1 ≤ 200000) ∧ -200000 ≤ (lst pts i).2 ∧ (lst pts i).2 ≤ 200000) := hide (by
        unfold lst
        split
        · simp
        · exact sub_bd (unhide HOK _ (by omega)) (unhide HOK _ (by omega)))
      have HAC := hide (fun W => acr_below (lst pts i) (wv pts i) W (unhide HLB) wb)
      have ew : sub (ptD pts (i + 1)) (ptD pts i) = wv pts i := rfl
      rw [ew] at HFR HST wb
      have HB := hide hms.bel
      have HC := hide hms.c
      have HP := hide hms.p
      have HQ := hide hms.q
      have HD := hide hms.d
      have hsz := hms.sz
      simp only [ptv] at HFR HST HAC
      have HO1 : Hid (∀ q, u4.ownBlock = some q → w.heap.size + 1 ≤ q ∧ q < wr.heap.size) := hide (fun q hq => hms.p.lt q hq)
      have HO2 : Hid (∀ q, u5.ownBlock = some q → w.heap.size + 1 ≤ q ∧ q < wr.heap.size) := hide (fun q hq => hms.q.lt q hq)
      clear hms ok0 ok1 hNM ew wm wm2
      go_wp2_with fail
      have HBa := hide (ba (unhide HB) (.cells #[.int .i64 (ptD pts (i + 1)).1, .int .i64 (ptD pts (i + 1)).2] 32))
      have HG := hide (vb_new wr 32 [.int .i64 (ptD pts (i + 1)).1, .int .i64 (ptD pts (i + 1)).2] _ rfl)
      have HC := hide ((unhide HC).bel (ba (Below.refl _ _) (.cells #[.int .i64 (ptD pts (i + 1)).1, .int .i64 (ptD pts (i + 1)).2] 32)))
      have HP := hide ((unhide HP).below (ba (Below.refl _ _) (.cells #[.int .i64 (ptD pts (i + 1)).1, .int .i64 (ptD pts (i + 1)).2] 32)))
      have HQ := hide ((unhide HQ).below (ba (Below.refl _ _) (.cells #[.int .i64 (ptD pts (i + 1)).1, .int .i64 (ptD pts (i + 1)).2] 32)))
      refine Go.Code.wp_mono (Only.to (fun _ _ h => h)) (fp6 (v0 := (wv pts i).1) (v1 := (wv pts i).2) (hide ((unhide HG).cell (m := 0) rfl)) (hide ((unhide HG).cell (m := 1) rfl)) (hide (unhide HA _ (unhide HBa)).1) (hide (unhide HA _ (unhide HBa)).2) (hide hiN) (hide fun X _ => unhide HFR X) ?_)
      intro nb X hX vn hnb
      have HNw := hide vn
      have HG := hide ((unhide HG).bel hX)
      have HCx := hide ((unhide HC).bel hX)
      have HPx := hide (hide ((unhide HP).below hX))
      have HQx := hide ((unhide HQ).below hX)
      have HBx := hide (bc (unhide HBa) hX)
      have HDx := HD
      have hnb2 : wr.heap.size < nb := by simp at hnb; omega
      have hXs : w.heap.size < X.heap.size := Nat.lt_of_lt_of_le hsz (by have := hX.size; simp at this; omega)
      have HPx := hide (unhide (unhide HPx))
      by_cases hz : i = 0
      · have tz : decide ((0 : Int) < (i : Int)) = false := decide_eq_false (by omega)
        have tz1 : ¬ (0 < i) := by omega
        have tz2 : ¬ ((0 : Int) < (i : Int)) := by omega
        have e0 : i - 1 = i := by omega
        rw [e0] at HQx
        have HZ0 := hide hz
        clear hz e0
        go_wp2_with fail
        have G0 := hide ((unhide HG).cell (m := 0) rfl)
        have G1 := hide ((unhide HG).cell (m := 1) rfl)
        have A0 := hide (unhide HA _ (unhide HBx)).1
        have A1 := hide (unhide HA _ (unhide HBx)).2
        refine Go.Code.wp_mono (Only.to (fun _ _ h => h)) (fp9 (ln := lnG (wv pts i)) A0 A1 G0 G1 (hide hiN) (hide fun X _ => unhide HST X) HPx (by omega) (by omega) ?_)
        intro n7 r1' Y1 Y2 hY1 hrow hgr hnbk
        have hsy : X.heap.size ≤ Y1.heap.size := hY1.size
        have HN2 := hide (((unhide HNw).bel hY1).grown hgr (fun e => by have h9 := unhide HO1 _ e; omega))
        have HC2 := hide (((unhide HCx).bel hY1).grown hgr (fun e => by have h9 := unhide HO1 _ e; omega))
        have HQ2 := hide (((unhide HQx).below hY1).grown hgr (fun q hq e => (unhide HDx).symm q hq e))
        have HD2 := hide ((((unhide HDx).symm).new ((unhide HQx).below hY1) hnbk).symm)
        have HP2 : Hid (Row Y2 (w.heap.size + 1) 3 1 r1' (i + 1) (mpT pts (i + 1))) := hide (by rw [mpT_succ]; exact hrow)
        have HB2 := hide ((bc (unhide HBx) hY1).grown (B := w.heap.size) hgr (by omega) (fun k e => by have h9 := unhide HO1 _ e; omega))
        have hs2 : w.heap.size < Y2.heap.size := Nat.lt_of_lt_of_le (by omega) hgr.size
        clear hY1 hrow hgr hnbk A0 A1 G0 G1
        have k0 := (unhide HN2).cell (m := 0) rfl
        have k1 := (unhide HN2).cell (m := 1) rfl
        have o0 := (unhide HC2).cell (m := 0) rfl
        have o1 := (unhide HC2).cell (m := 1) rfl
        have kf := (unhide HC2).frozen
        have HNX : Hid (Ms w ((Y2.setCell ⟨w.heap.size, 0, none⟩ (.int .i64 (wv pts i).1)).setCell ⟨w.heap.size, 1, none⟩ (.int .i64 (wv pts i).2)) pts (i + 1) r1' u5) := hide ⟨((unhide HB2).setCell (by simp) _).setCell (by simp) _, by simpa using hs2, by rw [lst_succ]; exact ((unhide HC2).set 0 _).set 1 _, ((unhide HP2).ne (by omega)).ne (by omega), by rw [show i + 1 - 1 = i from rfl]; exact ((unhide HQ2).ne (by omega)).ne (by omega), unhide HD2⟩
        generalize (wv pts i).1 = z0 at *
        generalize (wv pts i).2 = z1 at *
        go_wp2_with fail
        go_roundw
        case rel => first | exact ⟨i + 1, by simp, by omega, unhide HNX⟩ | ((repeat apply Exists.intro); refine ⟨?_, rfl⟩; exact ⟨i + 1, by simp, by omega, unhide HNX⟩)
        case measure => first | (simp only [intOf]; omega) | (simp [intOf]; omega)
      · have tz : decide ((0 : Int) < (i : Int)) = true := decide_eq_true (by omega)
        have tz1 : 0 < i := by omega
        have tz2 : (0 : Int) < (i : Int) := by omega
        obtain ⟨j, hj⟩ : ∃ j, i = j + 1 := ⟨i - 1, by omega⟩
        have hlw : lst pts i = wv pts j := by rw [hj]; exact lst_succ pts j
        have HBE : Hid (mbT pts i = mbT pts (i - 1) ++ [sgn (acr (lst pts i) (wv pts i))]) := hide (by rw [hlw, hj]; exact mbT_succ pts j)
        have HI1 : Hid (i - 1 + 1 = i) := hide (by omega)
        have c0 := (unhide HCx).cell (m := 0) rfl
        have c1 := (unhide HCx).cell (m := 1) rfl
        have k0 := (unhide HNw).cell (m := 0) rfl
        have k1 := (unhide HNw).cell (m := 1) rfl
        clear hz hj hlw
        generalize hac : acr (lst pts i) (wv pts i) = ac at HAC HBE
        clear hac
        go_wp2_with fail
        refine (unhide HAC _).mono ?_
        rintro e Z1 ⟨rfl, hz1⟩
        have HNw := hide ((unhide HNw).bel hz1)
        have HG := hide ((unhide HG).bel hz1)
        have HCx := hide ((unhide HCx).bel hz1)
        have HPx := hide ((unhide HPx).below hz1)
        have HQx := hide ((unhide HQx).below hz1)
        have HBx := hide (bc (unhide HBx) hz1)
        have hXs := Nat.lt_of_lt_of_le hXs hz1.size
        clear hz1 c0 c1 k0 k1
        go_wp2_with fail
        refine (sign_any ac _).mono ?_
        rintro e Z2 ⟨rfl, hz2⟩
        rw [hz2]
        clear hz2 Z2
        go_wp2_with (at_builtin; refine unhide ?_)
        refine hide ?_
        refine wpList_append_new _ rfl _ _ 23 rfl (w.heap.size + 1) 3 iP _ 1 8 Try.underlying23 hi1 hp0 hp1 hp2 rfl (by decide) _ _ _ rfl ((unhide HQx).below (ba (Below.refl _ _) _)) _ 1 1 ([sgn ac].map (Value.int .i64)) rfl rfl (by first | exact news_cells _ _ rfl | exact news_cells _ _ (by simp)) ints_one (by unfold maxLen; omega) (by omega) (by first | omega | (simp; omega)) ?_
        intro r2' wz hown' hgrow _ hnew
        have hal : Below Z1.heap.size Z1 (Z1.alloc (.cells #[.int .i64 (sgn ac)] 3)) := ba (Below.refl _ _) _
        have HNw := hide (((unhide HNw).bel hal).grown hgrow (fun e => by have h9 := unhide HO2 _ e; omega))
        have HG := hide (((unhide HG).bel hal).grown hgrow (fun e => by have h9 := unhide HO2 _ e; omega))
        have HCx := hide (((unhide HCx).bel hal).grown hgrow (fun e => by have h9 := unhide HO2 _ e; omega))
        have HDx := hide ((unhide HDx).new ((unhide HPx).below hal) hnew)
        have HPx := hide (((unhide HPx).below hal).grown hgrow (fun q hq e => unhide HD q hq e))
        have HQx : Hid (Row wz (w.heap.size + 1) 3 1 r2' i (mbT pts i)) := hide (by
          have := hown'
          rw [unhide HI1] at this
          rw [unhide HBE]
          unfold Row
          rw [List.map_append]
          exact this)
        have HBx := hide ((bc (unhide HBx) hal).grown (B := w.heap.size) hgrow (by simp; omega) (fun k e => by have h9 := unhide HO2 _ e; omega))
        have hXs : w.heap.size < wz.heap.size := Nat.lt_of_lt_of_le (by simp; omega) hgrow.size
        clear hown' hgrow hnew hal HI1 HBE
        go_wp2_with fail
        have G0 := hide ((unhide HG).cell (m := 0) rfl)
        have G1 := hide ((unhide HG).cell (m := 1) rfl)
        have A0 := hide (unhide HA _ (unhide HBx)).1
        have A1 := hide (unhide HA _ (unhide HBx)).2
        refine Go.Code.wp_mono (Only.to (fun _ _ h => h)) (fp9 (ln := lnG (wv pts i)) A0 A1 G0 G1 (hide hiN) (hide fun X _ => unhide HST X) HPx (by omega) (by omega) ?_)
        intro n7 r1' Y1 Y2 hY1 hrow hgr hnbk
        have hsy : wz.heap.size ≤ Y1.heap.size := hY1.size
        have HN2 := hide (((unhide HNw).bel hY1).grown hgr (fun e => by have h9 := unhide HO1 _ e; omega))
        have HC2 := hide (((unhide HCx).bel hY1).grown hgr (fun e => by have h9 := unhide HO1 _ e; omega))
        have HQ2 := hide (((unhide HQx).below hY1).grown hgr (fun q hq e => (unhide HDx).symm q hq e))
        have HD2 := hide ((((unhide HDx).symm).new ((unhide HQx).below hY1) hnbk).symm)
        have HP2 : Hid (Row Y2 (w.heap.size + 1) 3 1 r1' (i + 1) (mpT pts (i + 1))) := hide (by rw [mpT_succ]; exact hrow)
        have HB2 := hide ((bc (unhide HBx) hY1).grown (B := w.heap.size) hgr (by omega) (fun k e => by have h9 := unhide HO1 _ e; omega))
        have hs2 : w.heap.size < Y2.heap.size := Nat.lt_of_lt_of_le (by omega) hgr.size
        clear hY1 hrow hgr hnbk A0 A1 G0 G1
        have k0 := (unhide HN2).cell (m := 0) rfl
        have k1 := (unhide HN2).cell (m := 1) rfl
        have o0 := (unhide HC2).cell (m := 0) rfl
        have o1 := (unhide HC2).cell (m := 1) rfl
        have kf := (unhide HC2).frozen
        have HNX : Hid (Ms w ((Y2.setCell ⟨w.heap.size, 0, none⟩ (.int .i64 (wv pts i).1)).setCell ⟨w.heap.size, 1, none⟩ (.int .i64 (wv pts i).2)) pts (i + 1) r1' r2') := hide ⟨((unhide HB2).setCell (by simp) _).setCell (by simp) _, by simpa using hs2, by rw [lst_succ]; exact ((unhide HC2).set 0 _).set 1 _, ((unhide HP2).ne (by omega)).ne (by omega), by rw [show i + 1 - 1 = i from rfl]; exact ((unhide HQ2).ne (by omega)).ne (by omega), unhide HD2⟩
        generalize (wv pts i).1 = z0 at *
        generalize (wv pts i).2 = z1 at *
        go_wp2_with fail
        go_roundw
        case rel => first | exact ⟨i + 1, by simp, by omega, unhide HNX⟩ | ((repeat apply Exists.intro); refine ⟨?_, rfl⟩; exact ⟨i + 1, by simp, by omega, unhide HNX⟩)
        case measure => first | (simp only [intOf]; omega) | (simp [intOf]; omega)
    · have iz : decide ((i : Int) < (M : Int)) = false := decide_eq_false (by omega)
      obtain rfl : M = i := by omega
      have HMS := hide hms
      clear hms wm wm2
      go_wp2_with fail
      exact bodyPost_ret (v := .tuple #[u4, u5]) (by simp [results, Try.results40, go_sem]) rfl ⟨⟨_, _, rfl, by rw [(unhide HEM).1, unhide HMN]; exact (unhide HMS).p.mono (by omega), by rw [(unhide HEM).2, unhide HMN]; exact (unhide HMS).q.mono (by omega), (unhide HMS).d⟩, (unhide HMS).bel⟩
end Go.Proofs.Ytimkinpbimangaa
