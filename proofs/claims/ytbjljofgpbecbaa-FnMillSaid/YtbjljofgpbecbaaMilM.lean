/-
  The model's milling by moves.
-/
import Derived.Test.YtbjljofgpbecbaaMl7
namespace Go.Proofs.Ytbjljofgpbecbaa
open Go.ChangeShapes Go.WideShapes Go.ChangeAt Go.RowKit
set_option linter.unusedVariables false
set_option linter.unusedSimpArgs false

theorem vb.mq2 {a b : Nat} {x y : World} {k t : Nat} {vs : List Value} (h : vb x k t vs) (hm : Mq a b x y) (h1 : k ≠ a) (h2 : k ≠ b) : vb y k t vs := (hm.block k h.lt h1 h2).trans h
theorem Mq.belw2 {a b C : Nat} {x y : World} (h : Mq a b x y) (hC : C ≤ x.heap.size) (h1 : C ≤ a) (h2 : C ≤ b) : Below C x y := ⟨h.os, h.tape, h.output, h.size, fun k hk => h.block k (by omega) (by omega) (by omega)⟩
theorem ints_blk {w w' : World} {b po : Nat} {L : List Int} (h : IntsAt w b po L) (e : w'.heap[b]? = w.heap[b]?) : IntsAt w' b po L := fun j x hj => (World.cell?_of_block (w := w) (a := ⟨b, po + j, none⟩) e).trans (h j x hj)
theorem mvM_all (W H r : Nat) (fast : Bool) (tx ty tz : Int) (B M g po n c q cap : Nat) (P : List Int) (f : Bool) (ax ay az : Int) (s : Ml) (w : World)
    (hW1 : 1 ≤ W) (hW : W ≤ 24) (hH1 : 1 ≤ H) (hH : H ≤ 24) (hr : r ≤ 3) (hn : n = W * H) (hP : P.length = n) (hPt : ∀ i, 0 ≤ tp P i ∧ tp P i ≤ 24) (hO : MOk n s) (hA : 0 ≤ s.air ∧ s.air ≤ 900000)
    (hMq : M ≠ q) (hMg : g ≠ M) (hqg : g ≠ q) (hAt : inR W H ax ay az) (hR : Rn w B M W H g po n c P r f ax ay az q cap s) :
    Calls Try.prog 46 #[.pointer (some ⟨M, 0, none⟩), .agg #[.bool fast, .int .i64 tx, .int .i64 ty, .int .i64 tz]] w fun e w' => e = .returned (.int .i64 (mvC P W H r fast ax ay az tx ty tz s)) ∧ (mvC P W H r fast ax ay az tx ty tz s = 0 → Rn w' B M W H g po n c P r fast tx ty tz q cap (walkC P W H r fast ax ay az tx ty tz s (max (stN ax ay az tx ty tz) 1)).2) ∧ Mq M q w w' := by
  by_cases hIn : inR W H tx ty tz
  · exact mvM_in W H r fast tx ty tz B M g po n c q cap P f ax ay az s w hW1 hW hH1 hH hr hn hP hPt hO hA hMq hMg hqg hIn hAt hR
  · refine (mvM_range W H r fast tx ty tz B M g po n c q cap P f ax ay az s w hIn hR).mono ?_
    rintro e w' ⟨rfl, hb⟩
    have h5 : mvC P W H r fast ax ay az tx ty tz s = 5 := by
      unfold mvC wyC
      rw [if_pos hIn]
      simp
    rw [h5]
    exact ⟨rfl, (fun h => nomatch h), Mq.of_bel hb⟩

set_option maxHeartbeats 8000000 in
set_option maxRecDepth 100000 in
theorem mlM_good (W H r gs pos cs g po c n : Nat) (S P : List Int) (um : Option Addr) (pm pom m cm : Nat) (ms : List Mve) (w : World)
    (hW1 : 1 ≤ W) (hW : W ≤ 24) (hH1 : 1 ≤ H) (hH : H ≤ 24) (hr : r ≤ 3) (hn : n = W * H) (hS : Fd w gs pos n cs S) (hP : Fd w g po n c P)
    (hSt : ∀ i, 0 ≤ tp S i ∧ tp S i ≤ 24) (hPt : ∀ i, 0 ≤ tp P i ∧ tp P i ≤ 24) (hst : stB W H S W H P = true) (hm : ms.length = m) (hm2 : m ≤ 2000) (hmv : Mvs w um pm pom ms) :
    Calls Try.prog 12 #[fldV W H (some ⟨gs, pos, none⟩) n cs, fldV W H (some ⟨g, po, none⟩) n c, .int .i64 (r : Int), .slice um m cm] w fun e w' => (∃ i q cap, MlEnd P W H r S ms i ∧ e = .returned (.agg (pnV (mlC P W H r S ms i) (mlB ms i) W H q n cap (mlK P W H r S ms i).2).toArray) ∧ Row w' w.heap.size 3 1 (.slice (some ⟨q, 0, none⟩) n cap) n (mlK P W H r S ms i).2.T) ∧ Below w.heap.size w w' := by
  have hnb : n ≤ 576 := by rw [hn]; exact Nat.mul_le_mul hW hH
  have HPR := hide (fun X (hX : Below w.heap.size w X) => (prM_any (r : Int) W H (some ⟨gs, pos, none⟩) gs pos n cs S W H (some ⟨g, po, none⟩) g po n c P X hS.len (by omega) (hS.bel hX).its hP.len (by omega) (hP.bel hX).its))
  have hd : (stB W H S W H P && (decide (0 ≤ (r : Int)) && decide ((r : Int) ≤ 3))) = true := by rw [hst, decide_eq_true (show (0 : Int) ≤ (r : Int) by omega), decide_eq_true (show (r : Int) ≤ 3 by omega)]; rfl
  rw [hd] at HPR
  have HCP := hide (fun X (hX : Below w.heap.size w X) => cpM_any (W : Int) (H : Int) gs pos n cs S X (hS.bel hX) hnb)
  have HCQ := hide (fun (q cap : Nat) (T : List Int) (X : World) (hF : Fd X q 0 n cap T) => cpM_any (W : Int) (H : Int) q 0 n cap T X hF hnb)
  have HOK := hide (mlK_ok (P := P) (ms := ms) hr hW1 hW hH1 hH hn hS.len hSt)
  have HMV := hide (fun (fast : Bool) (tx ty tz : Int) (B M q cap : Nat) (f : Bool) (ax ay az : Int) (s : Ml) (X : World) (hO : MOk n s) (hA : 0 ≤ s.air ∧ s.air ≤ 900000) (hMq : M ≠ q) (hMg : g ≠ M) (hqg : g ≠ q) (hAt : inR W H ax ay az) (hR : Rn X B M W H g po n c P r f ax ay az q cap s) => mvM_all W H r fast tx ty tz B M g po n c q cap P f ax ay az s X hW1 hW hH1 hH hr hn hP.len hPt hO hA hMq hMg hqg hAt hR)
  have HPF := hide hP
  have HMS := hide hmv
  have HML := hide hm
  have hg := hP.lt
  have t1 : decide ((4096 : Int) < (m : Int)) = false := decide_eq_false (by omega)
  have t2 : decide ((2000 : Int) < (m : Int)) = false := decide_eq_false (by omega)
  have HB := hide (ba (ba (ba (Below.refl w.heap.size w) (.cells #[.int .i64 (W : Int), .int .i64 (H : Int), .slice (some ⟨gs, pos, none⟩) n cs] 25)) (.cells #[.int .i64 (W : Int), .int .i64 (H : Int), .slice (some ⟨g, po, none⟩) n c] 25)) (.cells #[.int .i64 0, .int .i64 0, .int .i64 0, .int .i64 0, .slice none 0 0, .int .i64 0, .int .i64 0, .int .i64 0] 31))
  have HV0 := hide (((vb_new w 25 [.int .i64 (W : Int), .int .i64 (H : Int), .slice (some ⟨gs, pos, none⟩) n cs] w.heap.size rfl).bel (ba (Below.refl _ _) (.cells #[.int .i64 (W : Int), .int .i64 (H : Int), .slice (some ⟨g, po, none⟩) n c] 25))).bel (ba (Below.refl _ _) (.cells #[.int .i64 0, .int .i64 0, .int .i64 0, .int .i64 0, .slice none 0 0, .int .i64 0, .int .i64 0, .int .i64 0] 31)))
  have HV1 := hide ((vb_new (w.alloc (.cells #[.int .i64 (W : Int), .int .i64 (H : Int), .slice (some ⟨gs, pos, none⟩) n cs] 25)) 25 [.int .i64 (W : Int), .int .i64 (H : Int), .slice (some ⟨g, po, none⟩) n c] (w.heap.size + 1) (by simp)).bel (ba (Below.refl _ _) (.cells #[.int .i64 0, .int .i64 0, .int .i64 0, .int .i64 0, .slice none 0 0, .int .i64 0, .int .i64 0, .int .i64 0] 31)))
  have HV2 := hide (vb_new ((w.alloc (.cells #[.int .i64 (W : Int), .int .i64 (H : Int), .slice (some ⟨gs, pos, none⟩) n cs] 25)).alloc (.cells #[.int .i64 (W : Int), .int .i64 (H : Int), .slice (some ⟨g, po, none⟩) n c] 25)) 31 [.int .i64 0, .int .i64 0, .int .i64 0, .int .i64 0, .slice none 0 0, .int .i64 0, .int .i64 0, .int .i64 0] (w.heap.size + 2) (by simp))
  have HSZ : Hid (w.heap.size + 3 ≤ (((w.alloc (.cells #[.int .i64 (W : Int), .int .i64 (H : Int), .slice (some ⟨gs, pos, none⟩) n cs] 25)).alloc (.cells #[.int .i64 (W : Int), .int .i64 (H : Int), .slice (some ⟨g, po, none⟩) n c] 25)).alloc (.cells #[.int .i64 0, .int .i64 0, .int .i64 0, .int .i64 0, .slice none 0 0, .int .i64 0, .int .i64 0, .int .i64 0] 31)).heap.size) := hide (by simp)
  unfold fldV at *
  clear hS hP hSt hPt hst hmv hm hd hn
  go_enter Try.func12, Try.ntmps12
  go_wp2_with fail
  generalize ((w.alloc (.cells #[.int .i64 (W : Int), .int .i64 (H : Int), .slice (some ⟨gs, pos, none⟩) n cs] 25)).alloc (.cells #[.int .i64 (W : Int), .int .i64 (H : Int), .slice (some ⟨g, po, none⟩) n c] 25)).alloc (.cells #[.int .i64 0, .int .i64 0, .int .i64 0, .int .i64 0, .slice none 0 0, .int .i64 0, .int .i64 0, .int .i64 0] 31) = Wa at *
  refine (unhide HPR _ (unhide HB)).mono ?_
  rintro x W1 ⟨rfl, hb1⟩
  have HV0' := hide ((unhide HV0).bel hb1)
  have HV1' := hide ((unhide HV1).bel hb1)
  have HV2' := hide ((unhide HV2).bel hb1)
  have HB1 := hide (bc (unhide HB) hb1)
  have HS1 : Hid (w.heap.size + 3 ≤ W1.heap.size) := hide (Nat.le_trans (unhide HSZ) hb1.size)
  clear hb1 HV0 HV1 HV2 HB HSZ
  go_wp2_with fail
  refine Go.Code.wp_mono (Only.to (fun _ _ h => h)) (ml7 (S := S) HV0' HV1' (hide fun X hX => (unhide HCP) X (bc (unhide HB1) hX)) (fun y27 y28 y29 y30 y31 y32 q cap M W2 hb2 hro hM hqM hvM => ?_))
  have hM3 : w.heap.size + 3 ≤ M := Nat.le_trans (unhide HS1) hM
  have hq3 : w.heap.size + 3 ≤ q := Nat.le_trans (unhide HS1) hro.ge
  have HB2 := hide (bc (unhide HB1) hb2)
  have HV2b := hide ((unhide HV2').bel hb2)
  have HRN : Hid (Rn W2 (w.heap.size + 3) M W H g po n c P r false 0 0 24 q cap ⟨S, 0, 0, 0⟩) := hide ⟨hvM, hro.mono (unhide HS1), ((unhide HPF).bel (unhide HB2)).lt, ((unhide HPF).bel (unhide HB2)).ints⟩
  have hMq : M ≠ q := fun e => hqM e.symm
  have hMg : g ≠ M := by omega
  have hqg : g ≠ q := by omega
  clear hb2 hro hM hvM HV0' HV1' HV2' HB1 HS1 hqM HPR HCP
  go_wp2_with fail
  go_loopw [10] (fun zz X => ∃ (i : Nat) (f : Bool), zz = .int .i64 (i : Int) ∧ i ≤ m ∧ mlGo P W H r S ms i ∧ Rn X (w.heap.size + 3) M W H g po n c P r f (mlK P W H r S ms i).1.1 (mlK P W H r S ms i).1.2.1 (mlK P W H r S ms i).1.2.2 q cap (mlK P W H r S ms i).2 ∧ vb X (w.heap.size + 2) 31 [.int .i64 0, .int .i64 0, .int .i64 0, .int .i64 0, .slice none 0 0, .int .i64 0, .int .i64 0, .int .i64 0] ∧ Below w.heap.size w X) (fun zz _ => m - (intOf zz).toNat)
  case atStart => exact ⟨0, false, rfl, Nat.zero_le _, (fun j hj => absurd hj (Nat.not_lt_zero j)), unhide HRN, unhide HV2b, unhide HB2⟩
  case round =>
    obtain ⟨i, f, rfl, hii, hgo, hR, hv, hw⟩ := hrel
    have HGO := hide hgo
    have HOKi := hide ((unhide HOK) i hgo)
    obtain ⟨ax, hax⟩ : ∃ ax, (mlK P W H r S ms i).1.1 = ax := ⟨_, rfl⟩
    obtain ⟨ay, hay⟩ : ∃ ay, (mlK P W H r S ms i).1.2.1 = ay := ⟨_, rfl⟩
    obtain ⟨az, haz⟩ : ∃ az, (mlK P W H r S ms i).1.2.2 = az := ⟨_, rfl⟩
    obtain ⟨s, hs⟩ : ∃ s, (mlK P W H r S ms i).2 = s := ⟨_, rfl⟩
    have HKE : Hid ((mlK P W H r S ms i) = ((ax, ay, az), s)) := hide (by rw [← hax, ← hay, ← haz, ← hs])
    rw [hax, hay, haz, hs] at hR
    have HRi := hide hR
    have HVi := hide hv
    have HWi := hide hw
    clear hgo hR hv hw hax hay haz hs HRN HV2b HB2
    by_cases h : i < m
    · have l1 : (i : Int) < (m : Int) := by omega
      have l0 : (0 : Int) ≤ (i : Int) := Int.natCast_nonneg _
      have lz := decide_eq_true l1
      obtain ⟨⟨fa, tx, ty, tz⟩, hx⟩ := get_some (unhide HML) h
      have HX := hide hx
      have HIL : Hid (i < ms.length) := hide (by rw [unhide HML]; exact h)
      obtain ⟨rfl, pw, _, _, _, _⟩ := (unhide HMS).at hx
      clear hx
      have hlt := (unhide HRi).v.lt
      have hqlt := (World.ownsRow.lt (unhide HRi).row q rfl).2
      have hglt := (unhide HRi).lt
      have hplt := (((unhide HMS).bel (unhide HWi)).at (unhide HX)).2.1
      have hsz : w.heap.size + 3 ≤ wr.heap.size := by omega
      have r0 := (unhide HRi).v.cell (m := 0) rfl
      have r1 := (unhide HRi).v.cell (m := 1) rfl
      have r2 := (unhide HRi).v.cell (m := 2) rfl
      have r3 := (unhide HRi).v.cell (m := 3) rfl
      have r4 := (unhide HRi).v.cell (m := 4) rfl
      have r5 := (unhide HRi).v.cell (m := 5) rfl
      have r6 := (unhide HRi).v.cell (m := 6) rfl
      have r7 := (unhide HRi).v.cell (m := 7) rfl
      have r8 := (unhide HRi).v.cell (m := 8) rfl
      have r9 := (unhide HRi).v.cell (m := 9) rfl
      have r10 := (unhide HRi).v.cell (m := 10) rfl
      have r11 := (unhide HRi).v.cell (m := 11) rfl
      have r12 := (unhide HRi).v.cell (m := 12) rfl
      have r13 := (unhide HRi).v.cell (m := 13) rfl
      have HA := hide (ba (Below.refl wr.heap.size wr) (.cells #[.int .i64 (W : Int), .int .i64 (H : Int), .slice (some ⟨g, po, none⟩) n c, .int .i64 (r : Int), .bool f, .int .i64 ax, .int .i64 ay, .int .i64 az, .int .i64 (W : Int), .int .i64 (H : Int), .slice (some ⟨q, 0, none⟩) n cap, .int .i64 s.cut, .int .i64 s.air, .int .i64 s.dep] 76))
      have HDD := hide (vb_new wr 76 [.int .i64 (W : Int), .int .i64 (H : Int), .slice (some ⟨g, po, none⟩) n c, .int .i64 (r : Int), .bool f, .int .i64 ax, .int .i64 ay, .int .i64 az, .int .i64 (W : Int), .int .i64 (H : Int), .slice (some ⟨q, 0, none⟩) n cap, .int .i64 s.cut, .int .i64 s.air, .int .i64 s.dep] wr.heap.size rfl)
      go_wp2_with fail
      have HRa := hide ((unhide HRi).bel (unhide HA))
      have HVa := hide ((unhide HVi).bel (unhide HA))
      have HWa := hide (bc (unhide HWi) (unhide HA))
      clear HRi HVi HWi HA r0 r1 r2 r3 r4 r5 r6 r7 r8 r9 r10 r11 r12 r13
      have hlt2 := (unhide HDD).lt
      generalize wr.alloc (.cells #[.int .i64 (W : Int), .int .i64 (H : Int), .slice (some ⟨g, po, none⟩) n c, .int .i64 (r : Int), .bool f, .int .i64 ax, .int .i64 ay, .int .i64 az, .int .i64 (W : Int), .int .i64 (H : Int), .slice (some ⟨q, 0, none⟩) n cap, .int .i64 s.cut, .int .i64 s.air, .int .i64 s.dep] 76) = Wb at *
      generalize wr.heap.size = D at *
      have hDM : D ≠ M := by omega
      refine (unhide HCQ q cap s.T _ (unhide HRa).row.fd).mono ?_
      rintro x W4 ⟨⟨q2, cap2, rfl, hro2⟩, hb4⟩
      have HR4 := hide ((unhide HRa).bel hb4)
      have HV4 := hide ((unhide HVa).bel hb4)
      have HW4 := hide (bc (unhide HWa) hb4)
      have HD4 := hide ((unhide HDD).bel hb4)
      have hq2 : Wb.heap.size ≤ q2 := hro2.ge
      have hD2 : D < q2 := by omega
      have HRO := hide hro2
      clear hro2 hb4 HRa HVa HWa HDD
      have d8 := (unhide HD4).cell (m := 8) rfl
      have d9 := (unhide HD4).cell (m := 9) rfl
      have d10 := (unhide HD4).cell (m := 10) rfl
      have df := (unhide HD4).frozen
      have hgm := ((unhide HMS).bel (unhide HW4)).at (unhide HX)
      have HD5 := hide ((((unhide HD4).set 8 (.int .i64 (W : Int))).set 9 (.int .i64 (H : Int))).set 10 (.slice (some ⟨q2, 0, none⟩) n cap2))
      have hDq : D ≠ q := by omega
      have hDg : D ≠ g := by omega
      have hpm : pm ≠ D := by omega
      have hwD : w.heap.size ≤ D := by omega
      have hw2 : w.heap.size + 2 ≠ D := by omega
      have HR5 : Hid (Rn (((W4.setCell ⟨D, 8, none⟩ (.int .i64 (W : Int))).setCell ⟨D, 9, none⟩ (.int .i64 (H : Int))).setCell ⟨D, 10, none⟩ (.slice (some ⟨q2, 0, none⟩) n cap2)) (w.heap.size + 3) M W H g po n c P r f ax ay az q cap s) := hide
        ⟨(((unhide HR4).v.ne (Ne.symm hDM)).ne (Ne.symm hDM)).ne (Ne.symm hDM), (unhide HR4).row.kept' (fun y hy => by
          simp only [Value.ownBlock, Option.some.injEq] at hy
          subst hy
          have hne := Ne.symm hDq
          exact (Below.heap_setCell _ _ _ _ hne).trans ( (Below.heap_setCell _ _ _ _ hne).trans (Below.heap_setCell _ _ _ _ hne))), by simpa [World.setCell] using (unhide HR4).lt, ints_blk (unhide HR4).part (by have hne := Ne.symm hDg; exact (Below.heap_setCell _ _ _ _ hne).trans ( (Below.heap_setCell _ _ _ _ hne).trans (Below.heap_setCell _ _ _ _ hne)))⟩
      have HV5 : Hid (vb (((W4.setCell ⟨D, 8, none⟩ (.int .i64 (W : Int))).setCell ⟨D, 9, none⟩ (.int .i64 (H : Int))).setCell ⟨D, 10, none⟩ (.slice (some ⟨q2, 0, none⟩) n cap2)) (w.heap.size + 2) 31 [.int .i64 0, .int .i64 0, .int .i64 0, .int .i64 0, .slice none 0 0, .int .i64 0, .int .i64 0, .int .i64 0]) := hide ((((unhide HV4).ne hw2).ne hw2).ne hw2)
      have HW5 : Hid (Below w.heap.size w (((W4.setCell ⟨D, 8, none⟩ (.int .i64 (W : Int))).setCell ⟨D, 9, none⟩ (.int .i64 (H : Int))).setCell ⟨D, 10, none⟩ (.slice (some ⟨q2, 0, none⟩) n cap2))) := hide (Below.setCell (Below.setCell (Below.setCell (unhide HW4) hwD _) hwD _) hwD _)
      have HRO5 : Hid (Row (((W4.setCell ⟨D, 8, none⟩ (.int .i64 (W : Int))).setCell ⟨D, 9, none⟩ (.int .i64 (H : Int))).setCell ⟨D, 10, none⟩ (.slice (some ⟨q2, 0, none⟩) n cap2)) Wb.heap.size 3 1 (.slice (some ⟨q2, 0, none⟩) n cap2) n s.T) := hide ((unhide HRO).kept' (fun y hy => by
          simp only [Value.ownBlock, Option.some.injEq] at hy
          subst hy
          have hne : q2 ≠ D := by omega
          exact (Below.heap_setCell _ _ _ _ hne).trans ( (Below.heap_setCell _ _ _ _ hne).trans (Below.heap_setCell _ _ _ _ hne))))
      have HM5 := hide ((unhide HMS).bel (unhide HW5))
      obtain ⟨_, _, c0, c1, c2, c3⟩ := (unhide HM5).at (unhide HX)
      simp only at c0 c1 c2 c3
      clear HR4 HV4 HW4 HD4 HRO hgm
      have R8 := (unhide HR5).v.cell (m := 8) rfl
      have hq2M : q2 ≠ M := by omega
      have hq2q : q2 ≠ q := by omega
      have HQ2 := hide (World.ownsRow.lt (unhide HRO5) q2 rfl).2
      go_wp2_with fail
      refine (unhide HMV fa tx ty tz (w.heap.size + 3) M q cap f ax ay az s _ (by have := (unhide HOKi).ok; rw [unhide HKE] at this; exact this) (by have := (unhide HOKi).air; rw [unhide HKE] at this; simp only at this; omega) hMq hMg hqg (by have := (unhide HOKi).at'; rw [unhide HKE] at this; exact this) (unhide HR5)).mono ?_
      rintro x W6 ⟨rfl, hr6, hm6⟩
      have HR6 := hide hr6
      have HMC : Hid (mlC P W H r S ms i = mvC P W H r fa ax ay az tx ty tz s) := hide (mlC_at (unhide HX) (unhide HKE))
      have HV6 := hide ((unhide HV5).mq2 hm6 (by omega) (by omega))
      have HD6 := hide ((unhide HD5).mq2 hm6 (by omega) (by omega))
      have HW6 := hide ((unhide HW5).trans (hm6.belw2 (C := w.heap.size) (unhide HW5).size (by omega) (by omega)))
      have HRO6 := hide ((unhide HRO5).kept' (w' := W6) (fun y hy => by
        simp only [Value.ownBlock, Option.some.injEq] at hy
        subst hy
        exact hm6.block q2 (unhide HQ2) hq2M hq2q))
      clear hr6 hm6 HR5 HV5 HD5 HW5 HRO5 HM5 c0 c1 c2 c3 R8
      obtain ⟨cd, hcd⟩ : ∃ cd, mvC P W H r fa ax ay az tx ty tz s = cd := ⟨_, rfl⟩
      rw [hcd] at HMC HR6
      rw [hcd]
      have HCD := hide hcd
      clear hcd
      by_cases hz : cd = 0
      · subst hz
        have HR7 := hide ((unhide HR6) rfl)
        have HKN := hide (mlK_succ (unhide HX) (unhide HKE))
        clear HR6
        go_wp2_with fail
        go_roundw
        case rel =>
          refine ⟨i + 1, fa, by simp, h, mlGo_succ (unhide HGO) (unhide HMC), ?_, unhide HV6, unhide HW6⟩
          rw [unhide HKN]
          exact unhide HR7
        case measure => simp only [intOf]; omega
      · have hzb : (cd != 0) = true := by simpa using hz
        have hzc : (cd == 0) = false := by simpa using hz
        have p8 := (unhide HD6).cell (m := 8) rfl
        have p9 := (unhide HD6).cell (m := 9) rfl
        have p10 := (unhide HD6).cell (m := 10) rfl
        have p11 := (unhide HD6).cell (m := 11) rfl
        have p12 := (unhide HD6).cell (m := 12) rfl
        have p13 := (unhide HD6).cell (m := 13) rfl
        have z0 := (unhide HV6).cell (m := 0) rfl
        have z1 := (unhide HV6).cell (m := 1) rfl
        have z2 := (unhide HV6).cell (m := 2) rfl
        have z3 := (unhide HV6).cell (m := 3) rfl
        have z4 := (unhide HV6).cell (m := 4) rfl
        have z5 := (unhide HV6).cell (m := 5) rfl
        have z6 := (unhide HV6).cell (m := 6) rfl
        have z7 := (unhide HV6).cell (m := 7) rfl
        have zf := (unhide HV6).frozen
        have dlt := (unhide HD6).lt
        have vlt := (unhide HV6).lt
        clear HR6
        go_wp2_with fail
        (try rw [Exit.noGoto_ret])
        refine bodyPost_ret (v := .agg (pnV cd (i : Int) W H q2 n cap2 s).toArray) (by simp [results, Try.results12, go_sem, pnV, p8, p9, p10, p11, p12, p13, z0, z1, z2, z3, z4, z5, z6, z7, vlt]) rfl ?_
        have hne : q2 ≠ w.heap.size + 2 := by omega
        have hle : w.heap.size ≤ w.heap.size + 2 := by omega
        refine ⟨⟨i, q2, cap2, ⟨by rw [unhide HML]; exact hii, unhide HGO, fun _ => by rw [unhide HMC]; exact hz⟩, ?_, ?_⟩, ?_⟩
        · rw [unhide HMC, mlB_in (unhide HIL), unhide HKE]
        · rw [unhide HKE]
          refine ((unhide HRO6).kept' (fun y hy => ?_)).mono (by omega)
          simp only [Value.ownBlock, Option.some.injEq] at hy
          subst hy
          exact (Below.heap_setCell _ _ _ _ hne).trans ( (Below.heap_setCell _ _ _ _ hne).trans ( (Below.heap_setCell _ _ _ _ hne).trans ( (Below.heap_setCell _ _ _ _ hne).trans ( (Below.heap_setCell _ _ _ _ hne).trans ( (Below.heap_setCell _ _ _ _ hne).trans ( (Below.heap_setCell _ _ _ _ hne).trans (Below.heap_setCell _ _ _ _ hne)))))))
        · exact Below.setCell (Below.setCell (Below.setCell (Below.setCell (Below.setCell (Below.setCell (Below.setCell (Below.setCell (unhide HW6) hle _) hle _) hle _) hle _) hle _) hle _) hle _) hle _
    · have lz : decide ((i : Int) < (m : Int)) = false := decide_eq_false (by omega)
      obtain rfl : i = m := by omega
      have HRO := hide (unhide HRi).row
      have p8 := (unhide HRi).v.cell (m := 8) rfl
      have p9 := (unhide HRi).v.cell (m := 9) rfl
      have p10 := (unhide HRi).v.cell (m := 10) rfl
      have p11 := (unhide HRi).v.cell (m := 11) rfl
      have p12 := (unhide HRi).v.cell (m := 12) rfl
      have p13 := (unhide HRi).v.cell (m := 13) rfl
      have z0 := (unhide HVi).cell (m := 0) rfl
      have z1 := (unhide HVi).cell (m := 1) rfl
      have z2 := (unhide HVi).cell (m := 2) rfl
      have z3 := (unhide HVi).cell (m := 3) rfl
      have z4 := (unhide HVi).cell (m := 4) rfl
      have z5 := (unhide HVi).cell (m := 5) rfl
      have z6 := (unhide HVi).cell (m := 6) rfl
      have z7 := (unhide HVi).cell (m := 7) rfl
      have zf := (unhide HVi).frozen
      have dlt := (unhide HRi).v.lt
      have vlt := (unhide HVi).lt
      go_wp2_with fail
      (try rw [Exit.noGoto_ret])
      refine bodyPost_ret (v := .agg (pnV 0 0 W H q n cap s).toArray) (by simp [results, Try.results12, go_sem, pnV, p8, p9, p10, p11, p12, p13, z0, z1, z2, z3, z4, z5, z6, z7, vlt]) rfl ?_
      have hne : q ≠ w.heap.size + 2 := by omega
      have hle : w.heap.size ≤ w.heap.size + 2 := by omega
      refine ⟨⟨i, q, cap, ⟨by rw [unhide HML]; exact Nat.le_refl _, unhide HGO, fun h9 => absurd h9 (by rw [unhide HML]; omega)⟩, ?_, ?_⟩, ?_⟩
      · have e1 : mlC P W H r S ms i = 0 := by have := mlC_end (P := P) (W := W) (H := H) (r := r) (S := S) (ms := ms); rw [unhide HML] at this; exact this
        have e2 : mlB ms i = 0 := by have := mlB_end (ms := ms); rw [unhide HML] at this; exact this
        rw [e1, e2, unhide HKE]
      · rw [unhide HKE]
        refine ((unhide HRO).kept' (fun y hy => ?_)).mono (by omega)
        simp only [Value.ownBlock, Option.some.injEq] at hy
        subst hy
        exact (Below.heap_setCell _ _ _ _ hne).trans ( (Below.heap_setCell _ _ _ _ hne).trans ( (Below.heap_setCell _ _ _ _ hne).trans ( (Below.heap_setCell _ _ _ _ hne).trans ( (Below.heap_setCell _ _ _ _ hne).trans ( (Below.heap_setCell _ _ _ _ hne).trans ( (Below.heap_setCell _ _ _ _ hne).trans (Below.heap_setCell _ _ _ _ hne)))))))
      · exact Below.setCell (Below.setCell (Below.setCell (Below.setCell (Below.setCell (Below.setCell (Below.setCell (Below.setCell (unhide HWi) hle _) hle _) hle _) hle _) hle _) hle _) hle _) hle _
end Go.Proofs.Ytbjljofgpbecbaa
