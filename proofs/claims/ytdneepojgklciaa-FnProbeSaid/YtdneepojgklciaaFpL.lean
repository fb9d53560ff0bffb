/-
  FnProbe: the walk.
-/
import Derived.Test.YtdneepojgklciaaPrM
import Derived.Test.YtdneepojgklciaaPof
import Derived.Test.YtdneepojgklciaaAtD
import Derived.Test.YtdneepojgklciaaJdD
import Derived.Test.YtdneepojgklciaaSmI
namespace Go.Proofs.Ytdneepojgklciaa
open Go.ChangeShapes Go.WideShapes Go.ChangeAt Go.RowKit
set_option linter.unusedVariables false
set_option linter.unusedSimpArgs false

theorem ptsAt_flat {w : World} {g : Nat} {L : List Pt} (h : IntsAt w g 0 (flat2 L)) : PtsAt w g 0 L := by
  intro j p hj
  exact ⟨h _ _ (flat2_at hj).1, h _ _ (flat2_at hj).2⟩
theorem PtsAt.blk {w w' : World} {b : Nat} {L : List (Int × Int)} (h : PtsAt w b 0 L) (e : w'.heap[b]? = w.heap[b]?) : PtsAt w' b 0 L :=
  fun j x hj => ⟨(World.cell?_of_block (w := w) (a := ⟨b, _, none⟩) e).trans (h j x hj).1, (World.cell?_of_block (w := w) (a := ⟨b, _, none⟩) e).trans (h j x hj).2⟩
/-- what the loop keeps -/
structure Kw (w : World) (g T q U n : Nat) (P : List Pt) (way : List Nat) (s : List Nat × Int × (Int × Int)) (W : World) : Prop where
  pts : PtsAt W g 0 P
  box : iblk W T 26 [s.2.2.1, s.2.2.2]
  way : iblk W q 3 (nums way)
  done : bblk W U (flg n s.1)
  bel : Below w.heap.size w W
theorem Kw.same {w : World} {g T q U n : Nat} {P : List Pt} {way : List Nat} {s : List Nat × Int × (Int × Int)} {W W' : World} (h : Kw w g T q U n P way s W) (e : Same W W') : Kw w g T q U n P way s W' :=
  ⟨h.pts.blk (by rw [e.heap]), e.iblk h.box, e.iblk h.way, vblk.same h.done e, h.bel.trans e.bel⟩

set_option maxHeartbeats 8000000 in
set_option maxRecDepth 100000 in
theorem fnProbe_core (a1 : Option Addr) (len1 cap1 : Nat) (a2 : Option Addr) (len2 cap2 : Nat) (w : World) (hl1 : len1 ≤ 1048576) (hl2 : len2 ≤ 1048576)
    (HPO : Hid (Calls Try.prog 6 #[.slice a1 len1 cap1] w fun e w' => ∃ (g c : Nat) (L : List Pt), e = .returned (.slice (some ⟨g, 0, none⟩) L.length c) ∧ 4 ≤ L.length ∧ L.length ≤ 100 ∧ (∀ p ∈ L, ptOk p = true) ∧ g < w'.heap.size ∧ IntsAt w' g 0 (flat2 L) ∧ Below w.heap.size w w'))
    (HAT : Hid (∀ (n : Int) W, Below w.heap.size w W → 1 ≤ n ∧ n ≤ 1000 → Calls Try.prog 7 #[.slice a2 len2 cap2, .int .i64 0, .int .i64 n] W fun e w' => ∃ r : Int, e = .returned (.int .i64 r) ∧ 0 ≤ r ∧ r < n ∧ Below W.heap.size W w'))
    (HDJ : Hid (∀ W, Below w.heap.size w W → Calls Try.prog 12 #[.slice a1 len1 cap1] W fun e w' => (∃ x0 x1 x2 x3 : Int, e = .returned (.tuple #[.int .i64 x0, .int .i64 x1, .int .i64 x2, .int .i64 x3])) ∧ Below W.heap.size W w')) :
    Calls Try.prog 3 #[.slice a1 len1 cap1, .slice a2 len2 cap2] w fun e w' => e = .returned (.bool true) ∧ Below w.heap.size w w' := by
  have t1 : decide ((1048576 : Int) < (len1 : Int)) = false := decide_eq_false (by omega)
  have t2 : decide ((1048576 : Int) < (len2 : Int)) = false := decide_eq_false (by omega)
  go_enter Try.func3, Try.ntmps3
  go_wp2_with fail
  refine (unhide HPO).mono ?_
  rintro e W1 ⟨g, c, P, rfl, hn0, hn1, hok, hg, hI, hb1⟩
  obtain ⟨n, hPn⟩ : ∃ n, P.length = n := ⟨_, rfl⟩
  rw [hPn] at hn0 hn1 ⊢
  have HPN := hide hPn
  have HOKP := hide hok
  have HALL : Hid (P.all ptOk = true) := hide (List.all_eq_true.2 hok)
  have HC1 := hide (ptsAt_flat hI)
  have HG1 := hide hg
  have HB1 := hide hb1
  have n0 : (0 : Int) ≤ (n : Int) := Int.natCast_nonneg _
  have nn : ((n : Int) != (n : Int)) = false := by simp
  clear hPn hok hg hI hb1
  go_wp2_with fail
  refine (unhide HAT _ _ (unhide HB1) (by omega)).mono ?_
  rintro e W2 ⟨r, rfl, r0, r1, hb2⟩
  obtain ⟨j, rfl⟩ := Int.eq_ofNat_of_zero_le r0
  have hC2 := (unhide HC1).below hb2
  have HG2 := hide (Nat.lt_of_lt_of_le (unhide HG1) hb2.size)
  have HB2 := hide (bc (unhide HB1) hb2)
  obtain ⟨⟨f1, f2⟩, hq⟩ : ∃ q, P[j]? = some q := ⟨_, List.getElem?_eq_getElem (by have := unhide HPN; omega)⟩
  have hfo : ptOk (f1, f2) = true := (unhide HOKP) _ (List.mem_of_getElem? hq)
  have HFO := hide hfo
  obtain ⟨c0, c1⟩ := hC2 j _ hq
  simp only [Nat.zero_add] at c0 c1
  have HC2 := hide hC2
  clear hb2 hC2 hq hfo
  go_wp2_with fail
  have HBX := hide (iblk_box W2 f1 f2)
  have HB3 := hide (ba (unhide HB2) (.cells #[.int .i64 f1, .int .i64 f2] 26))
  have HC3 := hide ((unhide HC2).below (ba (Below.refl _ _) (.cells #[.int .i64 f1, .int .i64 f2] 26)))
  have HG3 : Hid (g < (W2.alloc (.cells #[.int .i64 f1, .int .i64 f2] 26)).heap.size) := hide (by have := unhide HG2; simp; omega)
  have HGT : Hid (g < W2.heap.size) := HG2
  have HWT : Hid (w.heap.size ≤ W2.heap.size) := hide (unhide HB2).size
  generalize W2.alloc (.cells #[.int .i64 f1, .int .i64 f2] 26) = W3 at *
  generalize W2.heap.size = T at *
  clear c0 c1
  have HGOOD := hide (prP_good g c P (f1, f2) n W3 (unhide HPN) (by omega) (unhide HALL) (unhide HFO) (unhide HG3) (unhide HC3))
  simp only at HGOOD
  refine (unhide HGOOD).mono ?_
  rintro e W4 ⟨⟨v4, rfl, u4, q, c4, rfl, hq4⟩, hb4⟩
  have hWok := way_ok (P := P) (f := (f1, f2)) (fun q hq => ok_rpt ((unhide HOKP) q hq)) (ok_rpt (unhide HFO)) n (by rw [unhide HPN]; exact Nat.le_refl _)
  have hwl : (wayN P (f1, f2) n).1.length = n := hWok.len
  obtain ⟨rfl, hq1, hk4⟩ := hq4 (by intro e; rw [e] at hwl; simp at hwl; omega)
  rw [hwl]
  have HWL := hide hwl
  have HX4 := hide ((unhide HBX).bel hb4)
  have HB4 := hide (bc (unhide HB3) hb4)
  have HC4 := hide ((unhide HC3).below hb4)
  have HG4 := hide (Nat.lt_of_lt_of_le (unhide HG3) hb4.size)
  have HK4 := hide hk4
  have HTQ : Hid (T < q) := hide (Nat.lt_of_lt_of_le (unhide HBX).lt hq1)
  have HGQ : Hid (g < q) := hide (Nat.lt_of_lt_of_le (unhide HG3) hq1)
  have x0 := (unhide HX4).cell (m := 0) rfl
  have x1 := (unhide HX4).cell (m := 1) rfl
  clear hb4 hk4 hq1 hq4 hwl hWok HGOOD
  go_wp2_with fail
  have HGM := hide (prM_good g c P (f1, f2) n W4 (unhide HPN) (by omega) (unhide HALL) (unhide HFO) (unhide HG4) (unhide HC4))
  simp only at HGM
  refine (unhide HGM).mono ?_
  rintro e W5 ⟨⟨v5, rfl, hr5⟩, hb5⟩
  rw [unhide HWL] at hr5
  obtain ⟨gm, cm, rfl, _, hgm, hIm, _, _⟩ := hr5.full (by omega)
  have HSAME := hide (sm_same (some ⟨q, 0, none⟩) (some ⟨gm, 0, none⟩) q 0 gm 0 n c4 cm (nums (wayN P (f1, f2) n).1) W5 (by simp [nums, unhide HWL]) (by omega) (fun _ => ⟨rfl, ((unhide HK4).bel hb5).lt, ((unhide HK4).bel hb5).ints⟩) (fun _ => ⟨rfl, hgm, hIm⟩))
  have HX5 := hide ((unhide HX4).bel hb5)
  have HB5 := hide (bc (unhide HB4) hb5)
  have HC5 := hide ((unhide HC4).below hb5)
  have HK5 := hide ((unhide HK4).bel hb5)
  obtain ⟨ln, hln⟩ : ∃ ln, (wayN P (f1, f2) n).2.1 = ln := ⟨_, rfl⟩
  rw [hln]
  have HLN := hide hln
  have ll : (ln != ln) = false := by simp
  clear hb5 hr5 hgm hIm x0 x1 HGM hln
  go_wp2_with fail
  refine (unhide HSAME).mono ?_
  rintro e W6 ⟨rfl, hb6⟩
  have HX6 := hide ((unhide HX5).bel hb6)
  have HB6 := hide (bc (unhide HB5) hb6)
  have HC6 := hide ((unhide HC5).below hb6)
  have HK6 := hide ((unhide HK5).bel hb6)
  have hmk := fun W => make_bools (P := Try.prog) 32 4 n Try.underlying32 bool_info (by omega) W
  generalize hZ : (List.replicate n false).map Value.bool = Z at hmk
  have HZ := hide hZ
  clear hb6 hZ HSAME
  go_wp2_with fail
  have HKW : Hid (Kw w g T q W6.heap.size n P (wayN P (f1, f2) n).1 (wayN P (f1, f2) 0) (W6.alloc (.cells Z.toArray 4))) := hide (by
    have hb := ba (Below.refl W6.heap.size W6) (.cells Z.toArray 4)
    refine ⟨(unhide HC6).below hb, (unhide HX6).bel hb, (unhide HK6).bel hb, ?_, bc (unhide HB6) hb⟩
    have := vblk_new W6 4 Z
    show vblk _ _ 4 ((flg n []).map Value.bool)
    rw [flg_nil, unhide HZ]
    exact this)
  have HQU := hide (unhide HK6).lt
  clear hmk HX6 HB6 HC6 HK6 HX5 HB5 HC5 HK5 HX4 HB4 HC4 HK4 HBX HB3 HC3 HG3 HC2 HB1 HC1 HG1
  generalize W6.alloc (.cells Z.toArray 4) = W7 at *
  generalize W6.heap.size = U at *
  go_loopw [14, 15] (fun zs y W => ∃ i : Nat, y = .int .i64 (i : Int) ∧ zs = .int .i64 (wayN P (f1, f2) i).2.1 ∧ i ≤ n ∧ Kw w g T q U n P (wayN P (f1, f2) n).1 (wayN P (f1, f2) i) W) (fun zs y _ => n - (intOf y).toNat)
  case atStart => exact ⟨0, rfl, rfl, Nat.zero_le _, unhide HKW⟩
  case round =>
    obtain ⟨i, rfl, rfl, hi, hkw⟩ := hrel
    have hPA : ∀ q ∈ P, Rpt q := fun q hq => ok_rpt ((unhide HOKP) q hq)
    have hwok := way_ok (P := P) (f := (f1, f2)) hPA (ok_rpt (unhide HFO)) i (by rw [unhide HPN]; exact hi)
    have HNX : Hid (wayN P (f1, f2) (i + 1) = stepW P (wayN P (f1, f2) i)) := hide rfl
    have HNT : Hid (∀ b, (wayN P (f1, f2) (i + 1)).1 = (wayN P (f1, f2) i).1 ++ [b] → i < n → (wayN P (f1, f2) n).1[i]? = some b) := hide (fun b h1 h2 => by
      have := way_nth h1 hwok.len (n - (i + 1))
      rwa [show i + 1 + (n - (i + 1)) = n by omega] at this)
    have HEN : Hid (i = n → wayN P (f1, f2) n = wayN P (f1, f2) i) := hide (fun e => by rw [e])
    have HPA := hide hPA
    have HWO := hide hwok
    generalize hway : (wayN P (f1, f2) n).1 = way at *
    generalize wayN P (f1, f2) i = s at *
    obtain ⟨A, S, g1, g2⟩ := s
    simp only at HNT
    have HKW2 := hide hkw
    have s0 := hwok.sum0
    have s1 := hwok.sum1
    simp only at s0 s1
    clear hkw hwok hPA HKW hway
    by_cases h : i < n
    · have i1 : decide ((i : Int) < (n : Int)) = true := decide_eq_true (by omega)
      have i0 : (0 : Int) ≤ (i : Int) := Int.natCast_nonneg _
      have i2 : (i : Int) < (n : Int) := by omega
      obtain ⟨bb, hbest, hmem, hstep, hok⟩ := way_step (unhide HPA) (by rw [unhide HPN]; exact h) (unhide HWO)
      rw [unhide HPN] at hbest hmem
      simp only at hbest hmem hstep
      have hnth := (unhide HNT) bb (by rw [unhide HNX, hstep]) h
      obtain ⟨bn, bnA⟩ := lft_mem.1 hmem
      have HBLE := hide (best_le _ _ _ hbest)
      have HRP := hide ((unhide HWO).pt)
      have HSTEP := hide hstep
      have bb0 : (0 : Int) ≤ (bb : Int) := Int.natCast_nonneg _
      have bb2 : (bb : Int) < (n : Int) := by omega
      have d1 : decide ((bb : Int) < 0) = false := decide_eq_false (by omega)
      have d2 : decide ((n : Int) ≤ (bb : Int)) = false := decide_eq_false (by omega)
      have k0 := (unhide HKW2).way.cell (nums_at hnth)
      have k1 := (unhide HKW2).done.cell (flg_at A bn)
      have e1 : A.contains bb = false := by simpa using bnA
      rw [e1] at k1
      obtain ⟨⟨q1, q2⟩, hq⟩ : ∃ q, P[bb]? = some q := ⟨_, List.getElem?_eq_getElem (by have := unhide HPN; omega)⟩
      obtain ⟨k2, k3⟩ := (unhide HKW2).pts bb _ hq
      simp only [Nat.zero_add] at k2 k3
      have x0 := (unhide HKW2).box.cell (m := 0) rfl
      have x1 := (unhide HKW2).box.cell (m := 1) rfl
      simp only at x0 x1
      have hrq := (unhide HPA) _ (List.mem_of_getElem? hq)
      have hrp := unhide HRP
      obtain ⟨⟨p1, p2⟩, p3, p4⟩ := hrq
      obtain ⟨⟨r1', r2'⟩, r3', r4'⟩ := hrp
      simp only at p1 p2 p3 p4 r1' r2' r3' r4'
      have GQ := hide (gd_at (g1, g2) hq)
      have HQ := hide hq
      obtain ⟨b0, b1⟩ := ab_le (x := q1 - g1) (m := 200000) (by omega) (by omega)
      obtain ⟨b2, b3⟩ := ab_le (x := q2 - g2) (m := 200000) (by omega) (by omega)
      have ww1 : IntKind.i64.wrap (q1 - g1) = q1 - g1 := Go.IntWalk.i64_in _ ⟨by omega, by omega⟩
      have ww2 : IntKind.i64.wrap (q2 - g2) = q2 - g2 := Go.IntWalk.i64_in _ ⟨by omega, by omega⟩
      have ww3 : IntKind.i64.wrap (ab (q1 - g1) + ab (q2 - g2)) = ab (q1 - g1) + ab (q2 - g2) := Go.IntWalk.i64_in _ ⟨by omega, by omega⟩
      have HNTH := hide hnth
      clear hbest hmem hstep hok hnth e1 hq
      go_wp2_with fail
      go_region_held3 (fun wx => wx.cell? ⟨T, 0, none⟩ = some (.int .i64 g1) ∧ wx.cell? ⟨T, 1, none⟩ = some (.int .i64 g2) ∧ wx.cell? ⟨g, bb * 2, none⟩ = some (.int .i64 q1) ∧ wx.cell? ⟨g, bb * 2 + 1, none⟩ = some (.int .i64 q2) ∧ wx.cell? ⟨q, i, none⟩ = some (.int .i64 (bb : Int)))
        (simp (maxDischargeDepth := 12) [go_sem, le1, lt1, *])
        (first
        | (go_at_call 11; refine (absL_any _ _ (by omega) (by omega)).mono ?_; rintro e w7 ⟨rfl, rfl⟩))
      have HKW3 : Hid (Kw w g T q U n P way (A, S, g1, g2) wr.drew) := hide ((unhide HKW2).same (Same.refl _).drew)
      obtain ⟨dd, hdd⟩ : ∃ dd, ab (q1 - g1) + ab (q2 - g2) = dd := ⟨_, rfl⟩
      rw [hdd]
      have HDD : Hid (gd P (g1, g2) bb = dd) := hide (by rw [unhide GQ]; exact hdd)
      have dd0 : 0 ≤ dd := by omega
      have dd1 : dd ≤ 400000 := by omega
      clear hdd b0 b1 b2 b3 ww1 ww2 ww3 k0 k1 k2 k3 x0 x1 HKW2 d1 d2 p1 p2 p3 p4
      go_wp2_with fail
      generalize wr.drew = Wo at *
      go_loopw [17] (fun y W => ∃ k : Nat, y = .int .i64 (k : Int) ∧ k ≤ n ∧ Same Wo W) (fun y _ => n - (intOf y).toNat)
      case atStart => exact ⟨0, rfl, Nat.zero_le _, Same.refl _⟩
      case round =>
        obtain ⟨k, rfl, hk, hsame⟩ := hrel
        have HSM := hide hsame
        clear hsame
        by_cases h2 : k < n
        · have k1 : decide ((k : Int) < (n : Int)) = true := decide_eq_true (by omega)
          have k0 : (0 : Int) ≤ (k : Int) := Int.natCast_nonneg _
          have k2 : (k : Int) < (n : Int) := by omega
          have hkw := (unhide HKW3).same (unhide HSM)
          obtain ⟨⟨p1, p2⟩, hp⟩ : ∃ q, P[k]? = some q := ⟨_, List.getElem?_eq_getElem (by have := unhide HPN; omega)⟩
          have hrq := (unhide HPA) _ (List.mem_of_getElem? hp)
          obtain ⟨⟨y1, y2⟩, y3, y4⟩ := hrq
          simp only at y1 y2 y3 y4
          have GP := hide (gd_at (g1, g2) hp)
          obtain ⟨b0, b1⟩ := ab_le (x := p1 - g1) (m := 200000) (by omega) (by omega)
          obtain ⟨b2, b3⟩ := ab_le (x := p2 - g2) (m := 200000) (by omega) (by omega)
          have ww1 : IntKind.i64.wrap (p1 - g1) = p1 - g1 := Go.IntWalk.i64_in _ ⟨by omega, by omega⟩
          have ww2 : IntKind.i64.wrap (p2 - g2) = p2 - g2 := Go.IntWalk.i64_in _ ⟨by omega, by omega⟩
          have ww3 : IntKind.i64.wrap (ab (p1 - g1) + ab (p2 - g2)) = ab (p1 - g1) + ab (p2 - g2) := Go.IntWalk.i64_in _ ⟨by omega, by omega⟩
          obtain ⟨c2, c3⟩ := hkw.pts k _ hp
          simp only [Nat.zero_add] at c2 c3
          have x0 := hkw.box.cell (m := 0) rfl
          have x1 := hkw.box.cell (m := 1) rfl
          simp only at x0 x1
          have c4 := hkw.done.cell (flg_at A h2)
          have HLE : Hid (A.contains k = false → decide (ab (p1 - g1) + ab (p2 - g2) < dd) = false) := hide (fun hA => by
            have h1 := (unhide HBLE) k (lft_mem.2 ⟨h2, by simpa using hA⟩)
            rw [unhide HDD, unhide GP] at h1
            exact decide_eq_false (by have : stp (g1, g2) (p1, p2) = ab (p1 - g1) + ab (p2 - g2) := rfl; omega))
          generalize A.contains k = ak at *
          clear hp hkw
          cases ak with
          | true =>
            clear x0 x1 c2 c3 ww1 ww2 ww3 b0 b1 b2 b3 HLE
            go_wp2_with fail
            go_quiet (fail)
            go_wp2_with fail
            go_roundw
            case rel =>
              have Hx : ∃ k' : Nat, Value.int .i64 ((k : Int) + 1) = .int .i64 (k' : Int) ∧ k' ≤ n ∧ Same Wo (wr.drewN nq) := ⟨k + 1, by simp, h2, (unhide HSM).dn _⟩
              first | exact Hx | ((repeat apply Exists.intro); refine ⟨?_, rfl⟩; exact Hx)
            case measure => simp only [intOf]; omega
          | false =>
            have tl := (unhide HLE) rfl
            go_wp2_with fail
            go_region_held3 (fun wx => wx.cell? ⟨T, 0, none⟩ = some (.int .i64 g1) ∧ wx.cell? ⟨T, 1, none⟩ = some (.int .i64 g2) ∧ wx.cell? ⟨g, k * 2, none⟩ = some (.int .i64 p1) ∧ wx.cell? ⟨g, k * 2 + 1, none⟩ = some (.int .i64 p2) ∧ wx.cell? ⟨U, k, none⟩ = some (.bool false))
              (simp (maxDischargeDepth := 12) [go_sem, le1, lt1, *])
              (first
              | (go_at_call 11; refine (absL_any _ _ (by omega) (by omega)).mono ?_; rintro e w7 ⟨rfl, rfl⟩))
            all_goals
              go_wp2_with fail
              go_roundw
              case rel =>
                have Hx : ∃ k' : Nat, Value.int .i64 ((k : Int) + 1) = .int .i64 (k' : Int) ∧ k' ≤ n ∧ Same Wo wr.drew := ⟨k + 1, by simp, h2, (unhide HSM).drew⟩
                first | exact Hx | ((repeat apply Exists.intro); refine ⟨?_, rfl⟩; exact Hx)
              case measure => simp only [intOf]; omega
        · have k1 : decide ((k : Int) < (n : Int)) = false := decide_eq_false (by omega)
          have hkw := (unhide HKW3).same (unhide HSM)
          have nTU : T ≠ U := by have h1 := unhide HTQ; have h2 := unhide HQU; omega
          have nqU : q ≠ U := by have h2 := unhide HQU; omega
          have ngU : g ≠ U := by have h1 := unhide HGQ; have h2 := unhide HQU; omega
          have nqT : q ≠ T := by have h1 := unhide HTQ; omega
          have ngT : g ≠ T := by have h1 := unhide HGT; omega
          have wT := unhide HWT
          have wU : w.heap.size ≤ U := by have h1 := unhide HTQ; have h2 := unhide HQU; omega
          have k3 := hkw.way.cell (nums_at (unhide HNTH))
          have k4 := hkw.done.cell (flg_at A bn)
          have fzU : ∀ o, wr.frozen? ⟨U, o, none⟩ = false := vblk.frozen hkw.done
          have HK5 : Hid (PtsAt (wr.setCell ⟨U, bb, none⟩ (.bool true)) g 0 P ∧ iblk (wr.setCell ⟨U, bb, none⟩ (.bool true)) T 26 [g1, g2] ∧ iblk (wr.setCell ⟨U, bb, none⟩ (.bool true)) q 3 (nums way) ∧ bblk (wr.setCell ⟨U, bb, none⟩ (.bool true)) U (flg n (A ++ [bb])) ∧ Below w.heap.size w (wr.setCell ⟨U, bb, none⟩ (.bool true))) :=
            hide ⟨hkw.pts.blk (Below.heap_setCell _ _ _ _ ngU), (Below.heap_setCell _ _ _ _ nTU).trans hkw.box, (Below.heap_setCell _ _ _ _ nqU).trans hkw.way, by rw [← flg_set]; exact hkw.done.set bb true, Below.setCell hkw.bel wU _⟩
          obtain ⟨c2, c3⟩ := (unhide HK5).1 bb _ (unhide HQ)
          simp only [Nat.zero_add] at c2 c3
          have k5 := (unhide HK5).2.2.1.cell (nums_at (unhide HNTH))
          have x0 := (unhide HK5).2.1.cell (m := 0) rfl
          have x1 := (unhide HK5).2.1.cell (m := 1) rfl
          have fzT : ∀ o, (wr.setCell ⟨U, bb, none⟩ (.bool true)).frozen? ⟨T, o, none⟩ = false := (unhide HK5).2.1.frozen
          have ws : IntKind.i64.wrap (S + dd) = S + dd := Go.IntWalk.i64_in _ ⟨by omega, by omega⟩
          clear hkw
          go_wp2_with fail
          generalize wr.setCell ⟨U, bb, none⟩ (.bool true) = Ws at *
          go_roundw
          case rel =>
            have Hx : ∃ i' : Nat, Value.int .i64 ((i : Int) + 1) = .int .i64 (i' : Int) ∧ Value.int .i64 (S + dd) = .int .i64 (wayN P (f1, f2) i').2.1 ∧ i' ≤ n ∧ Kw w g T q U n P way (wayN P (f1, f2) i') ((Ws.setCell ⟨T, 0, none⟩ (.int .i64 q1)).setCell ⟨T, 1, none⟩ (.int .i64 q2)) := by
              refine ⟨i + 1, by simp, ?_, h, ?_⟩
              · rw [unhide HNX, unhide HSTEP, unhide HDD]
              · rw [unhide HNX, unhide HSTEP, unhide HQ]
                obtain ⟨z1, z2, z3, z4, z5⟩ := unhide HK5
                exact ⟨(z1.blk (Below.heap_setCell _ _ _ _ ngT)).blk (Below.heap_setCell _ _ _ _ ngT), (z2.set 0 q1).set 1 q2, (Below.heap_setCell _ _ _ _ nqT).trans ((Below.heap_setCell _ _ _ _ nqT).trans z3),
                  (Below.heap_setCell _ _ _ _ (Ne.symm nTU)).trans ((Below.heap_setCell _ _ _ _ (Ne.symm nTU)).trans z4), Below.setCell (Below.setCell z5 wT _) wT _⟩
            first | exact Hx | ((repeat apply Exists.intro); refine ⟨?_, rfl⟩; exact Hx)
          case measure => simp only [intOf]; omega
    · have i1 : decide ((i : Int) < (n : Int)) = false := decide_eq_false (by omega)
      obtain rfl : i = n := by omega
      have eS : S = ln := by have h1 := (unhide HEN) rfl; have h2 := unhide HLN; rw [h1] at h2; exact h2
      subst eS
      have HBE := hide (unhide HKW2).bel
      clear HKW2
      go_wp2_with fail
      refine (unhide HDJ _ (unhide HBE)).mono ?_
      rintro e W8 ⟨⟨v, l, h', d, rfl⟩, hb8⟩
      have HB8 := hide (bc (unhide HBE) hb8)
      have HJP := hide (fun W => juP_any v l h' d W)
      have HJM := hide (fun W => juM_any v l h' d W)
      clear hb8
      by_cases ok : JuOk v l h' d
      · rw [show juV v l h' d = .tuple #[.int .i64 (juK v l h' d), .int .i64 0] from if_pos ok] at HJP HJM
        obtain ⟨⟨⟨a0, a1'⟩, ⟨b0, b1⟩, ⟨c0, c1⟩, d0, d1⟩, e0, e1⟩ := ok
        obtain ⟨kk, hkk⟩ : ∃ kk, juK v l h' d = kk := ⟨_, rfl⟩
        rw [hkk] at HJP HJM
        have w1 : IntKind.i64.wrap (v + d) = v + d := Go.IntWalk.i64_in _ ⟨by omega, by omega⟩
        have w2 : IntKind.i64.wrap (v - d) = v - d := Go.IntWalk.i64_in _ ⟨by omega, by omega⟩
        by_cases qa : l ≤ v - d
        · have ta : decide (l ≤ v - d) = true := decide_eq_true qa
          have tc : decide (l ≤ v + d) = true := decide_eq_true (by omega)
          by_cases qb : v + d ≤ h'
          · have tb : decide (v + d ≤ h') = true := decide_eq_true qb
            have te : decide (v - d ≤ h') = true := decide_eq_true (by omega)
            obtain rfl : kk = 1 := by rw [← hkk]; unfold juK; split; all_goals (try split); all_goals omega
            clear hkk
            go_wp2_with fail
            refine (unhide HJP _).mono ?_
            rintro e W9 ⟨rfl, hb9⟩
            have HB9 := hide (bc (unhide HB8) hb9)
            clear hb9
            go_wp2_with fail
            refine (unhide HJM _).mono ?_
            rintro e W10 ⟨rfl, hb10⟩
            have HB10 := hide (bc (unhide HB9) hb10)
            clear hb10
            go_wp2_with fail
            go_ret
            exact ⟨rfl, unhide HB10⟩
          · have tb : decide (v + d ≤ h') = false := decide_eq_false qb
            by_cases qe : v - d ≤ h'
            · have te : decide (v - d ≤ h') = true := decide_eq_true qe
              obtain rfl : kk = 3 := by rw [← hkk]; unfold juK; split; all_goals (try split); all_goals omega
              clear hkk
              go_wp2_with fail
              refine (unhide HJP _).mono ?_
              rintro e W9 ⟨rfl, hb9⟩
              have HB9 := hide (bc (unhide HB8) hb9)
              clear hb9
              go_wp2_with fail
              refine (unhide HJM _).mono ?_
              rintro e W10 ⟨rfl, hb10⟩
              have HB10 := hide (bc (unhide HB9) hb10)
              clear hb10
              go_wp2_with fail
              go_ret
              exact ⟨rfl, unhide HB10⟩
            · have te : decide (v - d ≤ h') = false := decide_eq_false qe
              obtain rfl : kk = 2 := by rw [← hkk]; unfold juK; split; all_goals (try split); all_goals omega
              clear hkk
              go_wp2_with fail
              refine (unhide HJP _).mono ?_
              rintro e W9 ⟨rfl, hb9⟩
              have HB9 := hide (bc (unhide HB8) hb9)
              clear hb9
              go_wp2_with fail
              refine (unhide HJM _).mono ?_
              rintro e W10 ⟨rfl, hb10⟩
              have HB10 := hide (bc (unhide HB9) hb10)
              clear hb10
              go_wp2_with fail
              go_ret
              exact ⟨rfl, unhide HB10⟩
        · have ta : decide (l ≤ v - d) = false := decide_eq_false qa
          by_cases qc : l ≤ v + d
          · have tc : decide (l ≤ v + d) = true := decide_eq_true qc
            by_cases qe : v - d ≤ h'
            · have te : decide (v - d ≤ h') = true := decide_eq_true qe
              obtain rfl : kk = 3 := by rw [← hkk]; unfold juK; split; all_goals (try split); all_goals omega
              clear hkk
              go_wp2_with fail
              refine (unhide HJP _).mono ?_
              rintro e W9 ⟨rfl, hb9⟩
              have HB9 := hide (bc (unhide HB8) hb9)
              clear hb9
              go_wp2_with fail
              refine (unhide HJM _).mono ?_
              rintro e W10 ⟨rfl, hb10⟩
              have HB10 := hide (bc (unhide HB9) hb10)
              clear hb10
              go_wp2_with fail
              go_ret
              exact ⟨rfl, unhide HB10⟩
            · have te : decide (v - d ≤ h') = false := decide_eq_false qe
              obtain rfl : kk = 2 := by rw [← hkk]; unfold juK; split; all_goals (try split); all_goals omega
              clear hkk
              go_wp2_with fail
              refine (unhide HJP _).mono ?_
              rintro e W9 ⟨rfl, hb9⟩
              have HB9 := hide (bc (unhide HB8) hb9)
              clear hb9
              go_wp2_with fail
              refine (unhide HJM _).mono ?_
              rintro e W10 ⟨rfl, hb10⟩
              have HB10 := hide (bc (unhide HB9) hb10)
              clear hb10
              go_wp2_with fail
              go_ret
              exact ⟨rfl, unhide HB10⟩
          · have tc : decide (l ≤ v + d) = false := decide_eq_false qc
            obtain rfl : kk = 2 := by rw [← hkk]; unfold juK; split; all_goals (try split); all_goals omega
            clear hkk
            go_wp2_with fail
            refine (unhide HJP _).mono ?_
            rintro e W9 ⟨rfl, hb9⟩
            have HB9 := hide (bc (unhide HB8) hb9)
            clear hb9
            go_wp2_with fail
            refine (unhide HJM _).mono ?_
            rintro e W10 ⟨rfl, hb10⟩
            have HB10 := hide (bc (unhide HB9) hb10)
            clear hb10
            go_wp2_with fail
            go_ret
            exact ⟨rfl, unhide HB10⟩
      · rw [show juV v l h' d = .tuple #[.int .i64 0, .int .i64 1] from if_neg ok] at HJP HJM
        clear ok
        go_wp2_with fail
        refine (unhide HJP _).mono ?_
        rintro e W9 ⟨rfl, hb9⟩
        have HB9 := hide (bc (unhide HB8) hb9)
        clear hb9
        go_wp2_with fail
        refine (unhide HJM _).mono ?_
        rintro e W10 ⟨rfl, hb10⟩
        have HB10 := hide (bc (unhide HB9) hb10)
        clear hb10
        go_wp2_with fail
        go_ret
        exact ⟨rfl, unhide HB10⟩
end Go.Proofs.Ytdneepojgklciaa
