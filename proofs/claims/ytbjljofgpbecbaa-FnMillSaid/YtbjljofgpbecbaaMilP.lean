/-
  The program's milling by moves.
-/
import Derived.Test.YtbjljofgpbecbaaMp14
import Derived.Test.YtbjljofgpbecbaaMp18
namespace Go.Proofs.Ytbjljofgpbecbaa
open Go.ChangeShapes Go.WideShapes Go.ChangeAt Go.RowKit
set_option linter.unusedVariables false
set_option linter.unusedSimpArgs false

theorem vb.mq3 {a b : Nat} {x y : World} {k t : Nat} {vs : List Value} (h : vb x k t vs) (hm : Mq a b x y) (h1 : k ≠ a) (h2 : k ≠ b) : vb y k t vs := (hm.block k h.lt h1 h2).trans h
theorem Mq.belw3 {a b C : Nat} {x y : World} (h : Mq a b x y) (hC : C ≤ x.heap.size) (h1 : C ≤ a) (h2 : C ≤ b) : Below C x y := ⟨h.os, h.tape, h.output, h.size, fun k hk => h.block k (by omega) (by omega) (by omega)⟩
theorem inR_24 {W H : Nat} {x y z : Int} (hW : W ≤ 24) (hH : H ≤ 24) (h : inR W H x y z) : (0 ≤ x ∧ x ≤ 24) ∧ (0 ≤ y ∧ y ≤ 24) ∧ (0 ≤ z ∧ z ≤ 24) := by
  unfold inR at h
  omega
/-- the places of a way -/
theorem ptP_way (W H : Nat) (fx fy fz tx ty tz : Int) (w : World) (hW : W ≤ 24) (hH : H ≤ 24) (hf : inR W H fx fy fz) (ht : inR W H tx ty tz) (hs : str fx fy fz tx ty tz) :
    Calls Try.prog 44 #[.agg #[.int .i64 fx, .int .i64 fy, .int .i64 fz], .agg #[.int .i64 tx, .int .i64 ty, .int .i64 tz]] w fun e w' => (∃ wv cw, e = .returned (.slice (some ⟨wv, 0, none⟩) (max (stN fx fy fz tx ty tz) 1) cw) ∧ wv < w'.heap.size ∧ IntsAt w' wv 0 (wayF fx fy fz tx ty tz (max (stN fx fy fz tx ty tz) 1))) ∧ Below w.heap.size w w' := by
  refine (ptP_any fx fy fz tx ty tz w hs (inR_24 hW hH hf) (inR_24 hW hH ht)).mono ?_
  rintro e w' ⟨⟨v, rfl, hv, hro⟩, hb⟩
  obtain ⟨q, cap, rfl, h1, h2, h3, h4, h5⟩ := hro.full (by omega)
  exact ⟨⟨q, cap, rfl, h2, h3⟩, hb⟩
/-- milling along a way -/
theorem afP_way (W H r : Nat) (fast : Bool) (q n cap wv cw g po c : Nat) (fx fy fz tx ty tz : Int) (P : List Int) (s : Ml) (w : World)
    (hW1 : 1 ≤ W) (hW : W ≤ 24) (hH1 : 1 ≤ H) (hH : H ≤ 24) (hr : r ≤ 3) (hn : n = W * H) (hO : MOk n s) (hA : 0 ≤ s.air ∧ s.air ≤ 900000)
    (hf : inR W H fx fy fz) (ht : inR W H tx ty tz) (hs : str fx fy fz tx ty tz)
    (hT : Fd w q 0 n cap s.T) (hP : Fd w g po n c P) (hV : wv < w.heap.size ∧ IntsAt w wv 0 (wayF fx fy fz tx ty tz (max (stN fx fy fz tx ty tz) 1))) :
    Calls Try.prog 43 #[.agg #[.int .i64 0, .int .i64 0, .int .i64 (W : Int), .int .i64 (H : Int), .slice (some ⟨q, 0, none⟩) n cap, .int .i64 s.cut, .int .i64 s.air, .int .i64 s.dep], .slice (some ⟨wv, 0, none⟩) (max (stN fx fy fz tx ty tz) 1) cw, .agg #[.int .i64 (W : Int), .int .i64 (H : Int), .slice (some ⟨g, po, none⟩) n c], .int .i64 (r : Int), .bool fast] w fun x w' => (∃ q2 cap2 s2 cd, x = .returned (.tuple #[.agg #[.int .i64 0, .int .i64 0, .int .i64 (W : Int), .int .i64 (H : Int), .slice (some ⟨q2, 0, none⟩) n cap2, .int .i64 s2.cut, .int .i64 s2.air, .int .i64 s2.dep], .int .i64 cd]) ∧ Row w' w.heap.size 3 1 (.slice (some ⟨q2, 0, none⟩) n cap2) n s2.T ∧ (cd = (walkC P W H r fast fx fy fz tx ty tz s (max (stN fx fy fz tx ty tz) 1)).1 ∧ (cd = 0 → s2 = (walkC P W H r fast fx fy fz tx ty tz s (max (stN fx fy fz tx ty tz) 1)).2))) ∧ Below w.heap.size w w' := by
  have h24 := stN_le hW hH hs hf ht
  refine (afP_any W H r fast 0 0 q 0 n cap wv cw g po c _ fx fy fz tx ty tz P s w hW1 hW hH1 hH hr hn hO hA (by omega) hT hP hV ?_ ?_ ?_).mono ?_
  · intro i i1 i2
    have hx := nth_lo hs i2 i1 (lo := 0) (hi' := (W : Int) - 1)
    have hy := nth_lo hs i2 i1 (lo := 0) (hi' := (H : Int) - 1)
    have hz := nth_lo hs i2 i1 (lo := 0) (hi' := 24)
    exact ⟨hx.1 hf.1 ht.1, hy.2.1 hf.2.1 ht.2.1, hz.2.2 hf.2.2 ht.2.2⟩
  · exact walkC_ok hr (by omega) hn hO (fun i i1 i2 => ((nth_lo hs i2 i1 (lo := 0) (hi' := 24)).2.2 hf.2.2 ht.2.2).1)
  · intro k hk hc
    have := walkC_stick hc (max (stN fx fy fz tx ty tz) 1 - k)
    rwa [show k + (max (stN fx fy fz tx ty tz) 1 - k) = max (stN fx fy fz tx ty tz) 1 by omega] at this
  · rintro x w' ⟨⟨q2, cap2, s2, cd, rfl, hro, h1, h2⟩, hb⟩
    exact ⟨⟨q2, cap2, s2, cd, rfl, hro, h1, h2⟩, hb⟩
set_option maxHeartbeats 8000000 in
set_option maxRecDepth 100000 in
theorem mlP_good (W H r gs pos cs g po c n : Nat) (S P : List Int) (um : Option Addr) (pm pom m cm : Nat) (ms : List Mve) (w : World)
    (hW1 : 1 ≤ W) (hW : W ≤ 24) (hH1 : 1 ≤ H) (hH : H ≤ 24) (hr : r ≤ 3) (hn : n = W * H) (hS : Fd w gs pos n cs S) (hP : Fd w g po n c P)
    (hSt : ∀ i, 0 ≤ tp S i ∧ tp S i ≤ 24) (hPt : ∀ i, 0 ≤ tp P i ∧ tp P i ≤ 24) (hst : stB W H S W H P = true) (hm : ms.length = m) (hm2 : m ≤ 2000) (hmv : Mvs w um pm pom ms) :
    Calls Try.prog 11 #[fldV W H (some ⟨gs, pos, none⟩) n cs, fldV W H (some ⟨g, po, none⟩) n c, .int .i64 (r : Int), .slice um m cm] w fun e w' => (∃ i q cap, MlEnd P W H r S ms i ∧ e = .returned (.agg (pnV (mlC P W H r S ms i) (mlB ms i) W H q n cap (mlK P W H r S ms i).2).toArray) ∧ Row w' w.heap.size 3 1 (.slice (some ⟨q, 0, none⟩) n cap) n (mlK P W H r S ms i).2.T) ∧ Below w.heap.size w w' := by
  have hnb : n ≤ 576 := by rw [hn]; exact Nat.mul_le_mul hW hH
  have HPR := hide (fun X (hX : Below w.heap.size w X) => (stP_any W H (some ⟨gs, pos, none⟩) gs pos n cs S W H (some ⟨g, po, none⟩) g po n c P X hS.len (by omega) (hS.bel hX).its hP.len (by omega) (hP.bel hX).its))
  rw [hst] at HPR
  have htl : (decide (0 ≤ (r : Int)) && decide ((r : Int) ≤ 3)) = true := by rw [decide_eq_true (show (0 : Int) ≤ (r : Int) by omega), decide_eq_true (show (r : Int) ≤ 3 by omega)]; rfl
  have HTL := hide (fun X => rtP_any (r : Int) X)
  rw [htl] at HTL
  have HCP := hide (fun X (hX : Below w.heap.size w X) => cpP_any (W : Int) (H : Int) gs pos n cs S X (hS.bel hX) hnb)
  have HWY := hide (fun (fx fy fz tx ty tz : Int) X => wyP_any W H (some ⟨gs, pos, none⟩) n cs fx fy fz tx ty tz X hW1 hW hH1 hH)
  have HPT := hide (fun (fx fy fz tx ty tz : Int) X => ptP_way W H fx fy fz tx ty tz X hW hH)
  have HAF := hide (fun (fast : Bool) (q cap wv cw : Nat) (fx fy fz tx ty tz : Int) (s : Ml) (X : World) => afP_way W H r fast q n cap wv cw g po c fx fy fz tx ty tz P s X hW1 hW hH1 hH hr hn)
  have HOK := hide (mlK_ok (P := P) (ms := ms) hr hW1 hW hH1 hH hn hS.len hSt)
  have HPF := hide hP
  have HMS := hide hmv
  have HML := hide hm
  have t1 : decide ((4096 : Int) < (m : Int)) = false := decide_eq_false (by omega)
  have t2 : decide ((2000 : Int) < (m : Int)) = false := decide_eq_false (by omega)
  have HB := hide (ba (ba (ba (Below.refl w.heap.size w) (.cells #[.int .i64 (W : Int), .int .i64 (H : Int), .slice (some ⟨gs, pos, none⟩) n cs] 25)) (.cells #[.int .i64 (W : Int), .int .i64 (H : Int), .slice (some ⟨g, po, none⟩) n c] 25)) (.cells #[.int .i64 0, .int .i64 0, .int .i64 0, .int .i64 0, .slice none 0 0, .int .i64 0, .int .i64 0, .int .i64 0] 31))
  have HV0 := hide (((vb_new w 25 [.int .i64 (W : Int), .int .i64 (H : Int), .slice (some ⟨gs, pos, none⟩) n cs] w.heap.size rfl).bel (ba (Below.refl _ _) (.cells #[.int .i64 (W : Int), .int .i64 (H : Int), .slice (some ⟨g, po, none⟩) n c] 25))).bel (ba (Below.refl _ _) (.cells #[.int .i64 0, .int .i64 0, .int .i64 0, .int .i64 0, .slice none 0 0, .int .i64 0, .int .i64 0, .int .i64 0] 31)))
  have HV1 := hide ((vb_new (w.alloc (.cells #[.int .i64 (W : Int), .int .i64 (H : Int), .slice (some ⟨gs, pos, none⟩) n cs] 25)) 25 [.int .i64 (W : Int), .int .i64 (H : Int), .slice (some ⟨g, po, none⟩) n c] (w.heap.size + 1) (by simp)).bel (ba (Below.refl _ _) (.cells #[.int .i64 0, .int .i64 0, .int .i64 0, .int .i64 0, .slice none 0 0, .int .i64 0, .int .i64 0, .int .i64 0] 31)))
  have HV2 := hide (vb_new ((w.alloc (.cells #[.int .i64 (W : Int), .int .i64 (H : Int), .slice (some ⟨gs, pos, none⟩) n cs] 25)).alloc (.cells #[.int .i64 (W : Int), .int .i64 (H : Int), .slice (some ⟨g, po, none⟩) n c] 25)) 31 [.int .i64 0, .int .i64 0, .int .i64 0, .int .i64 0, .slice none 0 0, .int .i64 0, .int .i64 0, .int .i64 0] (w.heap.size + 2) (by simp))
  have HSZ : Hid (w.heap.size + 3 ≤ (((w.alloc (.cells #[.int .i64 (W : Int), .int .i64 (H : Int), .slice (some ⟨gs, pos, none⟩) n cs] 25)).alloc (.cells #[.int .i64 (W : Int), .int .i64 (H : Int), .slice (some ⟨g, po, none⟩) n c] 25)).alloc (.cells #[.int .i64 0, .int .i64 0, .int .i64 0, .int .i64 0, .slice none 0 0, .int .i64 0, .int .i64 0, .int .i64 0] 31)).heap.size) := hide (by simp)
  unfold fldV plV at *
  clear hS hP hSt hPt hst hmv hm htl hn
  go_enter Try.func11, Try.ntmps11
  go_wp2_with fail
  generalize ((w.alloc (.cells #[.int .i64 (W : Int), .int .i64 (H : Int), .slice (some ⟨gs, pos, none⟩) n cs] 25)).alloc (.cells #[.int .i64 (W : Int), .int .i64 (H : Int), .slice (some ⟨g, po, none⟩) n c] 25)).alloc (.cells #[.int .i64 0, .int .i64 0, .int .i64 0, .int .i64 0, .slice none 0 0, .int .i64 0, .int .i64 0, .int .i64 0] 31) = Wa at *
  refine (unhide HPR _ (unhide HB)).mono ?_
  rintro x W1 ⟨rfl, hb1⟩
  have HV0b := hide ((unhide HV0).bel hb1)
  have HV1b := hide ((unhide HV1).bel hb1)
  have HV2b := hide ((unhide HV2).bel hb1)
  have HB1 := hide (bc (unhide HB) hb1)
  have HS1 : Hid (w.heap.size + 3 ≤ W1.heap.size) := hide (Nat.le_trans (unhide HSZ) hb1.size)
  clear hb1 HV0 HV1 HV2 HB HSZ
  go_wp2_with fail
  refine (unhide HTL _).mono ?_
  rintro x W2 ⟨rfl, rfl⟩
  have HV0c := HV0b
  have HV1c := HV1b
  have HV2c := HV2b
  have HB2 := HB1
  have HS2 := HS1
  clear HV0b HV1b HV2b HB1 HS1
  have a0 := (unhide HV0c).cell (m := 0) rfl
  have a1 := (unhide HV0c).cell (m := 1) rfl
  have a2 := (unhide HV0c).cell (m := 2) rfl
  go_wp2_with fail
  refine (unhide HCP _ (unhide HB2)).mono ?_
  rintro x W3 ⟨⟨q, cap, rfl, hro⟩, hb3⟩
  have hA : Below W3.heap.size W3 (W3.alloc (.cells #[.int .i64 0, .int .i64 0, .int .i64 (W : Int), .int .i64 (H : Int), .slice (some ⟨q, 0, none⟩) n cap, .int .i64 0, .int .i64 0, .int .i64 0] 31)) := ba (Below.refl _ _) _
  have hA2 : Below W3.heap.size W3 ((W3.alloc (.cells #[.int .i64 0, .int .i64 0, .int .i64 (W : Int), .int .i64 (H : Int), .slice (some ⟨q, 0, none⟩) n cap, .int .i64 0, .int .i64 0, .int .i64 0] 31)).alloc (.cells #[.int .i64 0, .int .i64 0, .int .i64 24] 68)) := ba hA _
  have HV0 := hide (((unhide HV0c).bel hb3).bel hA2)
  have HV1 := hide (((unhide HV1c).bel hb3).bel hA2)
  have HV2 := hide (((unhide HV2c).bel hb3).bel hA2)
  have HB3 := hide (bc (bc (unhide HB2) hb3) hA2)
  have h93 : w.heap.size + 3 ≤ W3.heap.size := Nat.le_trans (unhide HS2) hb3.size
  have HV9 := hide (vb_new1 W3 31 [.int .i64 0, .int .i64 0, .int .i64 (W : Int), .int .i64 (H : Int), .slice (some ⟨q, 0, none⟩) n cap, .int .i64 0, .int .i64 0, .int .i64 0] (.cells #[.int .i64 0, .int .i64 0, .int .i64 24] 68))
  have HV10 := hide (vb_new2 W3 68 [.int .i64 0, .int .i64 0, .int .i64 24] (.cells #[.int .i64 0, .int .i64 0, .int .i64 (W : Int), .int .i64 (H : Int), .slice (some ⟨q, 0, none⟩) n cap, .int .i64 0, .int .i64 0, .int .i64 0] 31))
  have HPN : Hid (Pn ((W3.alloc (.cells #[.int .i64 0, .int .i64 0, .int .i64 (W : Int), .int .i64 (H : Int), .slice (some ⟨q, 0, none⟩) n cap, .int .i64 0, .int .i64 0, .int .i64 0] 31)).alloc (.cells #[.int .i64 0, .int .i64 0, .int .i64 24] 68)) (w.heap.size + 3) W3.heap.size 0 0 W H q n cap ⟨S, 0, 0, 0⟩) := hide ⟨unhide HV9, (hro.below hA2).mono (unhide HS2)⟩
  have HQ9 : Hid (W3.heap.size ≠ q ∧ W3.heap.size + 1 ≠ q) := hide (by have := (World.ownsRow.lt hro q rfl).2; omega)
  clear a0 a1 a2 hA hA2 HV9 hro hb3 HV0c HV1c HV2c HB2 HS2 HPR HCP HTL
  go_wp2_with fail
  generalize (W3.alloc (.cells #[.int .i64 0, .int .i64 0, .int .i64 (W : Int), .int .i64 (H : Int), .slice (some ⟨q, 0, none⟩) n cap, .int .i64 0, .int .i64 0, .int .i64 0] 31)).alloc (.cells #[.int .i64 0, .int .i64 0, .int .i64 24] 68) = W4 at *
  generalize W3.heap.size = b9 at *
  go_loopw [43] (fun zz X => ∃ (i q cap : Nat), zz = .int .i64 (i : Int) ∧ i ≤ m ∧ mlGo P W H r S ms i ∧ Pn X (w.heap.size + 3) b9 0 0 W H q n cap (mlK P W H r S ms i).2 ∧ (b9 ≠ q ∧ b9 + 1 ≠ q) ∧ vb X (b9 + 1) 68 [.int .i64 (mlK P W H r S ms i).1.1, .int .i64 (mlK P W H r S ms i).1.2.1, .int .i64 (mlK P W H r S ms i).1.2.2] ∧ vb X w.heap.size 25 [.int .i64 (W : Int), .int .i64 (H : Int), .slice (some ⟨gs, pos, none⟩) n cs] ∧ vb X (w.heap.size + 1) 25 [.int .i64 (W : Int), .int .i64 (H : Int), .slice (some ⟨g, po, none⟩) n c] ∧ vb X (w.heap.size + 2) 31 [.int .i64 0, .int .i64 0, .int .i64 0, .int .i64 0, .slice none 0 0, .int .i64 0, .int .i64 0, .int .i64 0] ∧ Below w.heap.size w X) (fun zz _ => m - (intOf zz).toNat)
  case atStart => exact ⟨0, q, cap, rfl, Nat.zero_le _, (fun j hj => absurd hj (Nat.not_lt_zero j)), unhide HPN, unhide HQ9, unhide HV10, unhide HV0, unhide HV1, unhide HV2, unhide HB3⟩
  case round =>
    obtain ⟨i, q, cap, rfl, hii, hgo, hR, ⟨hq9, hq10⟩, hv10, hv0, hv1, hv2, hw⟩ := hrel
    have HGO := hide hgo
    have HOKi := hide ((unhide HOK) i hgo)
    obtain ⟨fx, hax⟩ : ∃ ax, (mlK P W H r S ms i).1.1 = ax := ⟨_, rfl⟩
    obtain ⟨fy, hay⟩ : ∃ ay, (mlK P W H r S ms i).1.2.1 = ay := ⟨_, rfl⟩
    obtain ⟨fz, haz⟩ : ∃ az, (mlK P W H r S ms i).1.2.2 = az := ⟨_, rfl⟩
    obtain ⟨s, hs⟩ : ∃ s, (mlK P W H r S ms i).2 = s := ⟨_, rfl⟩
    have HKE : Hid ((mlK P W H r S ms i) = ((fx, fy, fz), s)) := hide (by rw [← hax, ← hay, ← haz, ← hs])
    rw [hs] at hR
    rw [hax, hay, haz] at hv10
    have HRi := hide hR
    have HTi := hide hv10
    have HV0i := hide hv0
    have HV1i := hide hv1
    have HV2i := hide hv2
    have HWi := hide hw
    clear hgo hR hv10 hv0 hv1 hv2 hw hax hay haz hs HPN HV0 HV1 HV2 HV10 HB3
    by_cases h : i < m
    · have l1 : (i : Int) < (m : Int) := by omega
      have l0 : (0 : Int) ≤ (i : Int) := Int.natCast_nonneg _
      have lz := decide_eq_true l1
      obtain ⟨⟨fa, tx, ty, tz⟩, hx⟩ := get_some (unhide HML) h
      have HX := hide hx
      have HIL : Hid (i < ms.length) := hide (by rw [unhide HML]; exact h)
      obtain ⟨rfl, pw, c0, c1, c2, c3⟩ := ((unhide HMS).bel (unhide HWi)).at hx
      simp only at c0 c1 c2 c3
      clear hx
      have h10lt := (unhide HTi).lt
      have hqlt := (World.ownsRow.lt (unhide HRi).row q rfl).2
      have hA : Below wr.heap.size wr ((wr.alloc (.cells #[.bool fa, .int .i64 tx, .int .i64 ty, .int .i64 tz] 36)).alloc (.cells #[.int .i64 tx, .int .i64 ty, .int .i64 tz] 68)) := ba (ba (Below.refl _ _) _) _
      have HRa := hide ((unhide HRi).bel hA)
      have HTa := hide ((unhide HTi).bel hA)
      have HV0a := hide ((unhide HV0i).bel hA)
      have HV1a := hide ((unhide HV1i).bel hA)
      have HV2a := hide ((unhide HV2i).bel hA)
      have HWa := hide (bc (unhide HWi) hA)
      have HMa := hide (vb_new1 wr 36 [.bool fa, .int .i64 tx, .int .i64 ty, .int .i64 tz] (.cells #[.int .i64 tx, .int .i64 ty, .int .i64 tz] 68))
      have HGa := hide (vb_new2 wr 68 [.int .i64 tx, .int .i64 ty, .int .i64 tz] (.cells #[.bool fa, .int .i64 tx, .int .i64 ty, .int .i64 tz] 36))
      have HSa : Hid (wr.heap.size + 2 ≤ ((wr.alloc (.cells #[.bool fa, .int .i64 tx, .int .i64 ty, .int .i64 tz] 36)).alloc (.cells #[.int .i64 tx, .int .i64 ty, .int .i64 tz] 68)).heap.size) := hide (by simp)
      clear hA HRi HTi HV0i HV1i HV2i HWi
      go_upto_region 12 with fail
      generalize (wr.alloc (.cells #[.bool fa, .int .i64 tx, .int .i64 ty, .int .i64 tz] 36)).alloc (.cells #[.int .i64 tx, .int .i64 ty, .int .i64 tz] 68) = Wb at *
      generalize wr.heap.size = D at *
      have a0 := (unhide HV0a).cell (m := 0) rfl
      have a1 := (unhide HV0a).cell (m := 1) rfl
      have a2 := (unhide HV0a).cell (m := 2) rfl
      have d0 := (unhide HTa).cell (m := 0) rfl
      have d1 := (unhide HTa).cell (m := 1) rfl
      have d2 := (unhide HTa).cell (m := 2) rfl
      have e0 := (unhide HGa).cell (m := 0) rfl
      have e1 := (unhide HGa).cell (m := 1) rfl
      have e2 := (unhide HGa).cell (m := 2) rfl
      go_wp2_with fail
      refine (unhide HWY fx fy fz tx ty tz _).mono ?_
      rintro x W5 ⟨rfl, hb5⟩
      have hA5 : Below W5.heap.size W5 (W5.alloc (.cells #[.int .i64 0, .int .i64 0, .int .i64 0, .int .i64 0, .slice none 0 0, .int .i64 0, .int .i64 0, .int .i64 0] 31)) := ba (Below.refl _ _) _
      have HR5 := hide (((unhide HRa).bel hb5).bel hA5)
      have HT5 := hide (((unhide HTa).bel hb5).bel hA5)
      have HV05 := hide (((unhide HV0a).bel hb5).bel hA5)
      have HV15 := hide (((unhide HV1a).bel hb5).bel hA5)
      have HV25 := hide (((unhide HV2a).bel hb5).bel hA5)
      have HW5 := hide (bc (bc (unhide HWa) hb5) hA5)
      have HM5 := hide (((unhide HMa).bel hb5).bel hA5)
      have HG5 := hide (((unhide HGa).bel hb5).bel hA5)
      have HZ5 := hide (vb_new W5 31 [.int .i64 0, .int .i64 0, .int .i64 0, .int .i64 0, .slice none 0 0, .int .i64 0, .int .i64 0, .int .i64 0] W5.heap.size rfl)
      have hS5 : D + 2 ≤ W5.heap.size := Nat.le_trans (unhide HSa) hb5.size
      clear hb5 hA5 HRa HTa HV0a HV1a HV2a HWa HMa HGa HSa a0 a1 a2 d0 d1 d2 e0 e1 e2
      have HMC : Hid (mlC P W H r S ms i = mvC P W H r fa fx fy fz tx ty tz s) := hide (mlC_at (unhide HX) (unhide HKE))
      obtain ⟨wc, hwc⟩ : ∃ wc, wyC W H fx fy fz tx ty tz = wc := ⟨_, rfl⟩
      rw [hwc]
      have HWC := hide hwc
      clear hwc
      by_cases hwz : wc = 0
      · subst hwz
        obtain ⟨hin, hstr⟩ := wyC_zero (unhide HWC)
        have HIN := hide hin
        have HSTR := hide hstr
        clear hin hstr
        have hm0 := (unhide HM5).cell (m := 0) rfl
        have HMC2 : Hid (mlC P W H r S ms i = (walkC P W H r fa fx fy fz tx ty tz s (max (stN fx fy fz tx ty tz) 1)).1) := hide (by rw [unhide HMC]; unfold mvC; rw [if_neg (by rw [unhide HWC]; simp)])
        go_wp2_with fail
        generalize W5.alloc (.cells #[.int .i64 0, .int .i64 0, .int .i64 0, .int .i64 0, .slice none 0 0, .int .i64 0, .int .i64 0, .int .i64 0] 31) = W6 at *
        generalize W5.heap.size = E at *
        refine Go.Code.wp_mono (Only.to (fun _ _ h => h)) (mp14 (s := s) (fa := fa) (Rf := fun s2 cd => cd = (walkC P W H r fa fx fy fz tx ty tz s (max (stN fx fy fz tx ty tz) 1)).1 ∧ (cd = 0 → s2 = (walkC P W H r fa fx fy fz tx ty tz s (max (stN fx fy fz tx ty tz) 1)).2)) (N := max (stN fx fy fz tx ty tz) 1) (L := wayF fx fy fz tx ty tz (max (stN fx fy fz tx ty tz) 1)) HV15 (hide (unhide HR5).v) HT5 HG5 (hide hm0) HZ5
          (hide fun X hX => (unhide HPT) fx fy fz tx ty tz X (by have := (unhide HOKi).at'; rw [unhide HKE] at this; exact this) (unhide HIN) (unhide HSTR))
          (hide fun wv cw X hX h1 h2 => (unhide HAF) fa q cap wv cw fx fy fz tx ty tz s X (by have := (unhide HOKi).ok; rw [unhide HKE] at this; exact this) (by have := (unhide HOKi).air; rw [unhide HKE] at this; simp only at this; omega) (by have := (unhide HOKi).at'; rw [unhide HKE] at this; exact this) (unhide HIN) (unhide HSTR) ((unhide HR5).bel hX).row.fd ((unhide HPF).bel (bc (unhide HW5) hX)) ⟨h1, h2⟩)
          (fun y63 y64 y65 y66 y67 y68 y69 y70 y71 y62 y72 y73 q2 cap2 s2 cd W7 hro7 hrf7 hv7 hm7 => ?_))
        obtain ⟨hcd, hs2⟩ := hrf7
        have hE : E < W6.heap.size := (unhide HZ5).lt
        have h10E : b9 + 1 < E := by omega
        have HR7 : Hid (Pn W7 (w.heap.size + 3) b9 0 0 W H q n cap s) := hide ⟨(unhide HR5).v.mq3 hm7 (by omega) (by omega), (unhide HR5).row.kept' (fun y hy => by
          simp only [Value.ownBlock, Option.some.injEq] at hy
          subst hy
          exact hm7.block _ (World.ownsRow.lt (unhide HR5).row _ rfl).2 (by omega) (by omega))⟩
        have HT7 := hide ((unhide HT5).mq3 hm7 (by omega) (by omega))
        have HG7 := hide ((unhide HG5).mq3 hm7 (by omega) (by omega))
        have HV07 := hide ((unhide HV05).mq3 hm7 (by omega) (by omega))
        have HV17 := hide ((unhide HV15).mq3 hm7 (by omega) (by omega))
        have HV27 := hide ((unhide HV25).mq3 hm7 (by omega) (by omega))
        have HW7 := hide ((unhide HW5).trans (hm7.belw3 (C := w.heap.size) (unhide HW5).size (by omega) (by omega)))
        have HZ7 := hide hv7
        have HRO7 := hide hro7
        have hq2 : W6.heap.size ≤ q2 := hro7.ge
        have HMC3 : Hid (mlC P W H r S ms i = cd) := hide (by rw [unhide HMC2, hcd])
        have HS2 := hide hs2
        clear hro7 hv7 hm7 hcd hs2 hm0 HR5 HT5 HG5 HV05 HV15 HV25 HW5 HZ5 HM5 HMC HMC2
        by_cases hz : cd = 0
        · subst hz
          have HKN := hide (mlK_succ (unhide HX) (unhide HKE))
          have HSE := hide ((unhide HS2) rfl)
          clear HS2
          have n1 : E ≠ b9 := by omega
          have n2 : E ≠ b9 + 1 := by omega
          have n3 : D + 1 ≠ b9 := by omega
          have n4 : D + 1 ≠ b9 + 1 := by omega
          have HV9 := hide (unhide HR7).v
          go_wp2_with fail
          refine Go.Code.wp_mono (Only.to (fun _ _ h => h)) (mp18 n1 n2 n3 n4 (by omega) (by omega) HZ7 HG7 HV9 HT7 (fun W8 h9 h10 hm8 => ?_))
          have hq9b : b9 ≠ q2 := by omega
          have hq10b : b9 + 1 ≠ q2 := by omega
          have HN9 := hide h9
          have HN10 := hide h10
          have HN0 := hide ((unhide HV07).mq3 hm8 (by omega) (by omega))
          have HN1 := hide ((unhide HV17).mq3 hm8 (by omega) (by omega))
          have HN2 := hide ((unhide HV27).mq3 hm8 (by omega) (by omega))
          have HNW := hide ((unhide HW7).trans (hm8.belw3 (C := w.heap.size) (unhide HW7).size (by omega) (by omega)))
          have HNR := hide ((unhide HRO7).kept' (w' := W8) (fun y hy => by
            simp only [Value.ownBlock, Option.some.injEq] at hy
            subst hy
            exact hm8.block _ (World.ownsRow.lt (unhide HRO7) _ rfl).2 (Ne.symm hq9b) (Ne.symm hq10b)))
          clear h9 h10 hm8
          go_wp2_with fail
          go_roundw
          case rel =>
            refine ⟨i + 1, q2, cap2, by simp, h, mlGo_succ (unhide HGO) (unhide HMC3), ?_, ⟨hq9b, hq10b⟩, ?_, unhide HN0, unhide HN1, unhide HN2, unhide HNW⟩
            · rw [unhide HKN, ← unhide HSE]
              exact ⟨unhide HN9, (unhide HNR).mono (by omega)⟩
            · rw [unhide HKN]
              exact unhide HN10
          case measure => simp only [intOf]; omega
        · have hzb : (cd != 0) = true := by simpa using hz
          have hzc : (cd == 0) = false := by simpa using hz
          have HMC := HMC3
          have p0 := ((unhide HR7).v).cell (m := 0) rfl
          have p1 := ((unhide HR7).v).cell (m := 1) rfl
          have p2 := ((unhide HR7).v).cell (m := 2) rfl
          have p3 := ((unhide HR7).v).cell (m := 3) rfl
          have p4 := ((unhide HR7).v).cell (m := 4) rfl
          have p5 := ((unhide HR7).v).cell (m := 5) rfl
          have p6 := ((unhide HR7).v).cell (m := 6) rfl
          have p7 := ((unhide HR7).v).cell (m := 7) rfl
          have z0 := (unhide HV27).cell (m := 0) rfl
          have z1 := (unhide HV27).cell (m := 1) rfl
          have z2 := (unhide HV27).cell (m := 2) rfl
          have z3 := (unhide HV27).cell (m := 3) rfl
          have z4 := (unhide HV27).cell (m := 4) rfl
          have z5 := (unhide HV27).cell (m := 5) rfl
          have z6 := (unhide HV27).cell (m := 6) rfl
          have z7 := (unhide HV27).cell (m := 7) rfl
          have zf := (unhide HV27).frozen
          have pf := (unhide HR7).v.frozen
          have vlt := (unhide HV27).lt
          have plt := (unhide HR7).v.lt
          have hne2 : w.heap.size + 2 ≠ b9 := by omega
          have hne3 : b9 ≠ w.heap.size + 2 := by omega
          have hnz : (w.heap.size + 2 == b9) = false := by simpa using hne2
          have HRf := hide (unhide HR7).row
          have HWf := HW7
          clear HR7 HV27
          go_wp2_with fail
          (try rw [Exit.noGoto_ret])
          refine bodyPost_ret (v := .agg (pnV cd (i : Int) W H q n cap s).toArray) (by simp [results, Try.results11, go_sem, pnV, p0, p1, p2, p3, p4, p5, p6, p7, z0, z1, z2, z3, z4, z5, z6, z7, vlt, plt, hne2, hne3]) rfl ?_
          have hne : q ≠ w.heap.size + 2 := by have := (unhide HRf).ge; omega
          have hneb : q ≠ b9 := Ne.symm hq9
          have hle : w.heap.size ≤ w.heap.size + 2 := by omega
          have hle9 : w.heap.size ≤ b9 := by omega
          refine ⟨⟨i, q, cap, ⟨by rw [unhide HML]; exact hii, unhide HGO, fun _ => by rw [unhide HMC]; exact hz⟩, ?_, ?_⟩, ?_⟩
          · rw [unhide HMC, mlB_in (unhide HIL), unhide HKE]
          · rw [unhide HKE]
            refine ((unhide HRf).kept' (fun y hy => ?_)).mono (by omega)
            simp only [Value.ownBlock, Option.some.injEq] at hy
            subst hy
            exact ((Below.heap_setCell _ _ _ _ hne).trans ( (Below.heap_setCell _ _ _ _ hne).trans ( (Below.heap_setCell _ _ _ _ hne).trans ( (Below.heap_setCell _ _ _ _ hne).trans ( (Below.heap_setCell _ _ _ _ hne).trans ( (Below.heap_setCell _ _ _ _ hne).trans ( (Below.heap_setCell _ _ _ _ hne).trans (Below.heap_setCell _ _ _ _ hne)))))))).trans ((Below.heap_setCell _ _ _ _ hneb).trans (Below.heap_setCell _ _ _ _ hneb))
          · exact Below.setCell (Below.setCell (Below.setCell (Below.setCell (Below.setCell (Below.setCell (Below.setCell (Below.setCell ((Below.setCell (Below.setCell (unhide HWf) hle9 _) hle9 _)) hle _) hle _) hle _) hle _) hle _) hle _) hle _) hle _
      · obtain ⟨cd, hcd⟩ : ∃ cd, wc = cd := ⟨_, rfl⟩
        subst hcd
        have hz := hwz
        have hzb : (wc != 0) = true := by simpa using hz
        have hzc : (wc == 0) = false := by simpa using hz
        have HMCw : Hid (mlC P W H r S ms i = wc) := hide (by rw [unhide HMC]; unfold mvC; rw [if_pos (by rw [unhide HWC]; exact hz)]; exact unhide HWC)
        clear HMC HT5 HG5 HV05 HV15 HZ5 HM5
        have HMC := HMCw
        have p0 := ((unhide HR5).v).cell (m := 0) rfl
        have p1 := ((unhide HR5).v).cell (m := 1) rfl
        have p2 := ((unhide HR5).v).cell (m := 2) rfl
        have p3 := ((unhide HR5).v).cell (m := 3) rfl
        have p4 := ((unhide HR5).v).cell (m := 4) rfl
        have p5 := ((unhide HR5).v).cell (m := 5) rfl
        have p6 := ((unhide HR5).v).cell (m := 6) rfl
        have p7 := ((unhide HR5).v).cell (m := 7) rfl
        have z0 := (unhide HV25).cell (m := 0) rfl
        have z1 := (unhide HV25).cell (m := 1) rfl
        have z2 := (unhide HV25).cell (m := 2) rfl
        have z3 := (unhide HV25).cell (m := 3) rfl
        have z4 := (unhide HV25).cell (m := 4) rfl
        have z5 := (unhide HV25).cell (m := 5) rfl
        have z6 := (unhide HV25).cell (m := 6) rfl
        have z7 := (unhide HV25).cell (m := 7) rfl
        have zf := (unhide HV25).frozen
        have pf := (unhide HR5).v.frozen
        have vlt := (unhide HV25).lt
        have plt := (unhide HR5).v.lt
        have hne2 : w.heap.size + 2 ≠ b9 := by omega
        have hne3 : b9 ≠ w.heap.size + 2 := by omega
        have hnz : (w.heap.size + 2 == b9) = false := by simpa using hne2
        have HRf := hide (unhide HR5).row
        have HWf := HW5
        clear HR5 HV25
        go_wp2_with fail
        (try rw [Exit.noGoto_ret])
        refine bodyPost_ret (v := .agg (pnV wc (i : Int) W H q n cap s).toArray) (by simp [results, Try.results11, go_sem, pnV, p0, p1, p2, p3, p4, p5, p6, p7, z0, z1, z2, z3, z4, z5, z6, z7, vlt, plt, hne2, hne3]) rfl ?_
        have hne : q ≠ w.heap.size + 2 := by have := (unhide HRf).ge; omega
        have hneb : q ≠ b9 := Ne.symm hq9
        have hle : w.heap.size ≤ w.heap.size + 2 := by omega
        have hle9 : w.heap.size ≤ b9 := by omega
        refine ⟨⟨i, q, cap, ⟨by rw [unhide HML]; exact hii, unhide HGO, fun _ => by rw [unhide HMC]; exact hz⟩, ?_, ?_⟩, ?_⟩
        · rw [unhide HMC, mlB_in (unhide HIL), unhide HKE]
        · rw [unhide HKE]
          refine ((unhide HRf).kept' (fun y hy => ?_)).mono (by omega)
          simp only [Value.ownBlock, Option.some.injEq] at hy
          subst hy
          exact ((Below.heap_setCell _ _ _ _ hne).trans ( (Below.heap_setCell _ _ _ _ hne).trans ( (Below.heap_setCell _ _ _ _ hne).trans ( (Below.heap_setCell _ _ _ _ hne).trans ( (Below.heap_setCell _ _ _ _ hne).trans ( (Below.heap_setCell _ _ _ _ hne).trans ( (Below.heap_setCell _ _ _ _ hne).trans (Below.heap_setCell _ _ _ _ hne)))))))).trans ((Below.heap_setCell _ _ _ _ hneb).trans (Below.heap_setCell _ _ _ _ hneb))
        · exact Below.setCell (Below.setCell (Below.setCell (Below.setCell (Below.setCell (Below.setCell (Below.setCell (Below.setCell ((Below.setCell (Below.setCell (unhide HWf) hle9 _) hle9 _)) hle _) hle _) hle _) hle _) hle _) hle _) hle _) hle _
    · have lz : decide ((i : Int) < (m : Int)) = false := decide_eq_false (by omega)
      obtain rfl : i = m := by omega
      have p0 := ((unhide HRi).v).cell (m := 0) rfl
      have p1 := ((unhide HRi).v).cell (m := 1) rfl
      have p2 := ((unhide HRi).v).cell (m := 2) rfl
      have p3 := ((unhide HRi).v).cell (m := 3) rfl
      have p4 := ((unhide HRi).v).cell (m := 4) rfl
      have p5 := ((unhide HRi).v).cell (m := 5) rfl
      have p6 := ((unhide HRi).v).cell (m := 6) rfl
      have p7 := ((unhide HRi).v).cell (m := 7) rfl
      have z0 := (unhide HV2i).cell (m := 0) rfl
      have z1 := (unhide HV2i).cell (m := 1) rfl
      have z2 := (unhide HV2i).cell (m := 2) rfl
      have z3 := (unhide HV2i).cell (m := 3) rfl
      have z4 := (unhide HV2i).cell (m := 4) rfl
      have z5 := (unhide HV2i).cell (m := 5) rfl
      have z6 := (unhide HV2i).cell (m := 6) rfl
      have z7 := (unhide HV2i).cell (m := 7) rfl
      have zf := (unhide HV2i).frozen
      have vlt := (unhide HV2i).lt
      have plt := (unhide HRi).v.lt
      have HRf := hide (unhide HRi).row
      have hne3 : b9 ≠ w.heap.size + 2 := by omega
      go_wp2_with fail
      (try rw [Exit.noGoto_ret])
      refine bodyPost_ret (v := .agg (pnV 0 0 W H q n cap s).toArray) (by simp [results, Try.results11, go_sem, pnV, p0, p1, p2, p3, p4, p5, p6, p7, z0, z1, z2, z3, z4, z5, z6, z7, vlt, plt, hne3]) rfl ?_
      have hne : q ≠ w.heap.size + 2 := by have := (unhide HRf).ge; omega
      have hle : w.heap.size ≤ w.heap.size + 2 := by omega
      refine ⟨⟨i, q, cap, ⟨by rw [unhide HML]; exact Nat.le_refl _, unhide HGO, fun h9 => absurd h9 (by rw [unhide HML]; omega)⟩, ?_, ?_⟩, ?_⟩
      · have e1 : mlC P W H r S ms i = 0 := by have := mlC_end (P := P) (W := W) (H := H) (r := r) (S := S) (ms := ms); rw [unhide HML] at this; exact this
        have e2 : mlB ms i = 0 := by have := mlB_end (ms := ms); rw [unhide HML] at this; exact this
        rw [e1, e2, unhide HKE]
      · rw [unhide HKE]
        refine ((unhide HRf).kept' (fun y hy => ?_)).mono (by omega)
        simp only [Value.ownBlock, Option.some.injEq] at hy
        subst hy
        exact (Below.heap_setCell _ _ _ _ hne).trans ( (Below.heap_setCell _ _ _ _ hne).trans ( (Below.heap_setCell _ _ _ _ hne).trans ( (Below.heap_setCell _ _ _ _ hne).trans ( (Below.heap_setCell _ _ _ _ hne).trans ( (Below.heap_setCell _ _ _ _ hne).trans ( (Below.heap_setCell _ _ _ _ hne).trans (Below.heap_setCell _ _ _ _ hne)))))))
      · exact Below.setCell (Below.setCell (Below.setCell (Below.setCell (Below.setCell (Below.setCell (Below.setCell (Below.setCell (unhide HWi) hle _) hle _) hle _) hle _) hle _) hle _) hle _) hle _
end Go.Proofs.Ytbjljofgpbecbaa
