/-
  The program's milling along a way.
-/
import Derived.Test.YtbjljofgpbecbaaTak
import Derived.Test.YtbjljofgpbecbaaSml
import Derived.Test.YtbjljofgpbecbaaAf9
import Derived.Test.YtbjljofgpbecbaaWyc
namespace Go.Proofs.Ytbjljofgpbecbaa
open Go.ChangeShapes Go.WideShapes Go.ChangeAt Go.RowKit
set_option linter.unusedVariables false
set_option linter.unusedSimpArgs false

theorem Mq.belw {a b C : Nat} {x y : World} (h : Mq a b x y) (hC : C ≤ x.heap.size) (h1 : C ≤ a) (h2 : C ≤ b) : Below C x y := ⟨h.os, h.tape, h.output, h.size, fun k hk => h.block k (by omega) (by omega) (by omega)⟩
theorem bel_of_same {a b : World} (h : Same a b) : Below a.heap.size a b := h.bel
theorem vb.mq {a b : Nat} {x y : World} {k t : Nat} {vs : List Value} (h : vb x k t vs) (hm : Mq a b x y) (h1 : k ≠ a) (h2 : k ≠ b) : vb y k t vs := (hm.block k h.lt h1 h2).trans h
set_option maxHeartbeats 16000000 in
set_option maxRecDepth 100000 in
theorem afP_any (W H r : Nat) (fast : Bool) (e b : Int) (q0 po0 n c0 wv cw g po c N : Nat) (fx fy fz tx ty tz : Int) (P : List Int) (s : Ml) (w : World)
    (hW1 : 1 ≤ W) (hW : W ≤ 24) (hH1 : 1 ≤ H) (hH : H ≤ 24) (hr : r ≤ 3) (hn : n = W * H) (hO : MOk n s) (hA : 0 ≤ s.air ∧ s.air ≤ 900000) (hN : N ≤ 400)
    (hT : Fd w q0 po0 n c0 s.T) (hP : Fd w g po n c P) (hV : wv < w.heap.size ∧ IntsAt w wv 0 (wayF fx fy fz tx ty tz N))
    (hX : ∀ i, 1 ≤ i → i ≤ N → (0 ≤ nth fx tx i ∧ nth fx tx i ≤ (W : Int) - 1) ∧ (0 ≤ nth fy ty i ∧ nth fy ty i ≤ (H : Int) - 1) ∧ (0 ≤ nth fz tz i ∧ nth fz tz i ≤ 24))
    (hWK : ∀ k, k ≤ N → MOk n (walkC P W H r fast fx fy fz tx ty tz s k).2 ∧ s.air ≤ (walkC P W H r fast fx fy fz tx ty tz s k).2.air ∧ (walkC P W H r fast fx fy fz tx ty tz s k).2.air ≤ s.air + k)
    (hST : ∀ k, k ≤ N → (walkC P W H r fast fx fy fz tx ty tz s k).1 ≠ 0 → walkC P W H r fast fx fy fz tx ty tz s N = walkC P W H r fast fx fy fz tx ty tz s k) :
    Calls Try.prog 43 #[.agg #[.int .i64 e, .int .i64 b, .int .i64 (W : Int), .int .i64 (H : Int), .slice (some ⟨q0, po0, none⟩) n c0, .int .i64 s.cut, .int .i64 s.air, .int .i64 s.dep], .slice (some ⟨wv, 0, none⟩) N cw, fldV (W : Int) (H : Int) (some ⟨g, po, none⟩) n c, .int .i64 (r : Int), .bool fast] w fun x w' => (∃ q cap s' code, x = .returned (.tuple #[.agg (pnV e b W H q n cap s').toArray, .int .i64 code]) ∧ Row w' w.heap.size 3 1 (.slice (some ⟨q, 0, none⟩) n cap) n s'.T ∧ code = (walkC P W H r fast fx fy fz tx ty tz s N).1 ∧ (code = 0 → s' = (walkC P W H r fast fx fy fz tx ty tz s N).2)) ∧ Below w.heap.size w w' := by
  have hnb : n ≤ 576 := by rw [hn]; exact Nat.mul_le_mul hW hH
  have HCP := hide (fun X (hX : Below w.heap.size w X) => cpP_any (W : Int) (H : Int) q0 po0 n c0 s.T X (hT.bel hX) hnb)
  have HUP := hide (fun (x y : Nat) (X : World) (hx : x < W) (hy : y < H) => unP_any W H r x y g po n c X hW hH hr hx hy hn hP.cap hP.top)
  have HUM := hide (fun (q cap x y : Nat) (X : World) (h1 : n ≤ cap) (h2 : cap ≤ 9223372036854775807) (hx : x < W) (hy : y < H) => unP_any W H r x y q 0 n cap X hW hH hr hx hy hn h1 h2)
  have HPK := hide (fun (x y : Nat) (hx : x < W) (hy : y < H) => (show (∀ p ∈ pieces W H r x y, 0 < p.2 ∧ p.1 + p.2 ≤ n) ∧ (pieces W H r x y).length ≤ 24 from ⟨by rw [hn]; exact pieces_ok hr hx hy, by rw [pieces_len]; exact vn_le hH hy⟩))
  have HPF := hide hP
  have HWV := hide hV
  have HXB := hide hX
  have HWK := hide hWK
  have HST := hide hST
  have b0 := (.cells #[.int .i64 e, .int .i64 b, .int .i64 (W : Int), .int .i64 (H : Int), .slice (some ⟨q0, po0, none⟩) n c0, .int .i64 s.cut, .int .i64 s.air, .int .i64 s.dep] 31 : Obj)
  have HB := hide (ba (ba (ba (Below.refl w.heap.size w) (.cells #[.int .i64 e, .int .i64 b, .int .i64 (W : Int), .int .i64 (H : Int), .slice (some ⟨q0, po0, none⟩) n c0, .int .i64 s.cut, .int .i64 s.air, .int .i64 s.dep] 31)) (.cells #[.int .i64 (W : Int), .int .i64 (H : Int), .slice (some ⟨g, po, none⟩) n c] 25)) (.cells #[.int .i64 0, .int .i64 0, .int .i64 0, .int .i64 0, .slice none 0 0, .int .i64 0, .int .i64 0, .int .i64 0] 31))
  clear b0 hT hP hV hX hWK hST hn
  unfold fldV at *
  have HR0 := hide (((vb_new w 31 [.int .i64 e, .int .i64 b, .int .i64 (W : Int), .int .i64 (H : Int), .slice (some ⟨q0, po0, none⟩) n c0, .int .i64 s.cut, .int .i64 s.air, .int .i64 s.dep] w.heap.size rfl).bel (ba (Below.refl _ _) (.cells #[.int .i64 (W : Int), .int .i64 (H : Int), .slice (some ⟨g, po, none⟩) n c] 25))).bel (ba (Below.refl _ _) (.cells #[.int .i64 0, .int .i64 0, .int .i64 0, .int .i64 0, .slice none 0 0, .int .i64 0, .int .i64 0, .int .i64 0] 31)))
  have HP0 := hide ((vb_new (w.alloc (.cells #[.int .i64 e, .int .i64 b, .int .i64 (W : Int), .int .i64 (H : Int), .slice (some ⟨q0, po0, none⟩) n c0, .int .i64 s.cut, .int .i64 s.air, .int .i64 s.dep] 31)) 25 [.int .i64 (W : Int), .int .i64 (H : Int), .slice (some ⟨g, po, none⟩) n c] (w.heap.size + 1) (by simp)).bel (ba (Below.refl _ _) (.cells #[.int .i64 0, .int .i64 0, .int .i64 0, .int .i64 0, .slice none 0 0, .int .i64 0, .int .i64 0, .int .i64 0] 31)))
  have HZ0 := hide (vb_new ((w.alloc (.cells #[.int .i64 e, .int .i64 b, .int .i64 (W : Int), .int .i64 (H : Int), .slice (some ⟨q0, po0, none⟩) n c0, .int .i64 s.cut, .int .i64 s.air, .int .i64 s.dep] 31)).alloc (.cells #[.int .i64 (W : Int), .int .i64 (H : Int), .slice (some ⟨g, po, none⟩) n c] 25)) 31 [.int .i64 0, .int .i64 0, .int .i64 0, .int .i64 0, .slice none 0 0, .int .i64 0, .int .i64 0, .int .i64 0] (w.heap.size + 2) (by simp))
  go_enter Try.func43, Try.ntmps43
  go_wp2_with fail
  go_step3
  go_wp2_with fail
  refine (unhide HCP _ (unhide HB)).mono ?_
  rintro x W1 ⟨⟨q, cap, rfl, hro⟩, hb1⟩
  have vr := (unhide HR0).bel hb1
  have k2 := vr.cell (m := 2) rfl
  have k3 := vr.cell (m := 3) rfl
  have k4 := vr.cell (m := 4) rfl
  have kf := vr.frozen
  have hfd := hro.fd
  have hc1 := hfd.cap
  have hc2 := hfd.top
  have hq3 : w.heap.size + 3 ≤ q := by have h1 := hro.ge; simpa using h1
  have HPN : Hid (Pn (((W1.setCell ⟨w.heap.size, 2, none⟩ (.int .i64 (W : Int))).setCell ⟨w.heap.size, 3, none⟩ (.int .i64 (H : Int))).setCell ⟨w.heap.size, 4, none⟩ (.slice (some ⟨q, 0, none⟩) n cap)) (w.heap.size + 3) w.heap.size e b W H q n cap s) := hide ⟨((vr.set 2 _).set 3 _).set 4 _, (hro.mono (by simp)).kept' (fun y hy => by
    simp only [Value.ownBlock, Option.some.injEq] at hy
    subst hy
    have hne : q ≠ w.heap.size := by omega
    exact (Below.heap_setCell _ _ _ _ hne).trans ((Below.heap_setCell _ _ _ _ hne).trans (Below.heap_setCell _ _ _ _ hne)))⟩
  have HVP : Hid (vb (((W1.setCell ⟨w.heap.size, 2, none⟩ (.int .i64 (W : Int))).setCell ⟨w.heap.size, 3, none⟩ (.int .i64 (H : Int))).setCell ⟨w.heap.size, 4, none⟩ (.slice (some ⟨q, 0, none⟩) n cap)) (w.heap.size + 1) 25 [.int .i64 (W : Int), .int .i64 (H : Int), .slice (some ⟨g, po, none⟩) n c]) := hide (((((unhide HP0).bel hb1).ne (by omega)).ne (by omega)).ne (by omega))
  have HVZ : Hid (vb (((W1.setCell ⟨w.heap.size, 2, none⟩ (.int .i64 (W : Int))).setCell ⟨w.heap.size, 3, none⟩ (.int .i64 (H : Int))).setCell ⟨w.heap.size, 4, none⟩ (.slice (some ⟨q, 0, none⟩) n cap)) (w.heap.size + 2) 31 [.int .i64 0, .int .i64 0, .int .i64 0, .int .i64 0, .slice none 0 0, .int .i64 0, .int .i64 0, .int .i64 0]) := hide (((((unhide HZ0).bel hb1).ne (by omega)).ne (by omega)).ne (by omega))
  have HBW : Hid (Below w.heap.size w (((W1.setCell ⟨w.heap.size, 2, none⟩ (.int .i64 (W : Int))).setCell ⟨w.heap.size, 3, none⟩ (.int .i64 (H : Int))).setCell ⟨w.heap.size, 4, none⟩ (.slice (some ⟨q, 0, none⟩) n cap))) := hide (Below.setCell (Below.setCell (Below.setCell (bc (unhide HB) hb1) (Nat.le_refl _) _) (Nat.le_refl _) _) (Nat.le_refl _) _)
  clear hro hb1 vr hfd HR0 HP0 HZ0 HB
  go_wp2_with fail
  generalize ((W1.setCell ⟨w.heap.size, 2, none⟩ (.int .i64 (W : Int))).setCell ⟨w.heap.size, 3, none⟩ (.int .i64 (H : Int))).setCell ⟨w.heap.size, 4, none⟩ (.slice (some ⟨q, 0, none⟩) n cap) = W2 at *
  clear k2 k3 k4 kf
  first | go_step3 | skip
  go_wp2_with fail
  go_loopw [12, 22] (fun z12 zz X => ∃ i : Nat, zz = .int .i64 (i : Int) ∧ i ≤ N ∧ z12 = .int .i64 0 ∧ (walkC P W H r fast fx fy fz tx ty tz s i).1 = 0 ∧ Pn X (w.heap.size + 3) w.heap.size e b W H q n cap (walkC P W H r fast fx fy fz tx ty tz s i).2 ∧ vb X (w.heap.size + 1) 25 [.int .i64 (W : Int), .int .i64 (H : Int), .slice (some ⟨g, po, none⟩) n c] ∧ vb X (w.heap.size + 2) 31 [.int .i64 0, .int .i64 0, .int .i64 0, .int .i64 0, .slice none 0 0, .int .i64 0, .int .i64 0, .int .i64 0] ∧ Below w.heap.size w X) (fun _ zz _ => N - (intOf zz).toNat)
  case atStart => exact ⟨0, rfl, Nat.zero_le _, rfl, rfl, unhide HPN, unhide HVP, unhide HVZ, unhide HBW⟩
  case round =>
    obtain ⟨i, rfl, hii, rfl, hi0, hpn, hvp, hvz, hw⟩ := hrel
    have HI0 := hide hi0
    have HPi := hide hpn
    have HVPi := hide hvp
    have HVZi := hide hvz
    have HWi := hide hw
    clear hi0 hpn hvp hvz hw
    by_cases h : i < N
    · have l1 : (i : Int) < (N : Int) := by omega
      have l0 : (0 : Int) ≤ (i : Int) := Int.natCast_nonneg _
      have lz := decide_eq_true l1
      obtain ⟨⟨x0, x1⟩, ⟨y0, y1⟩, z0, z1⟩ := (unhide HXB) (i + 1) (by omega) (by omega)
      obtain ⟨hok, hai1, hai2⟩ := (unhide HWK) i (by omega)
      have HSTi := hide ((unhide HST) (i + 1) (by omega))
      obtain ⟨wa1, wa2, wa3⟩ := wayF_at fx fy fz tx ty tz h
      have HWS : Hid (walkC P W H r fast fx fy fz tx ty tz s (i + 1) = placeC P (cols W H r (nth fx tx (i + 1)).toNat (nth fy ty (i + 1)).toNat) (nth fz tz (i + 1)) fast (walkC P W H r fast fx fy fz tx ty tz s i).2) := hide (by
        show (if _ then _ else _) = _
        rw [if_neg (by rw [unhide HI0]; simp)])
      obtain ⟨nx, hnx⟩ : ∃ nx : Nat, nth fx tx (i + 1) = (nx : Int) := ⟨(nth fx tx (i + 1)).toNat, by omega⟩
      obtain ⟨ny, hny⟩ : ∃ ny : Nat, nth fy ty (i + 1) = (ny : Int) := ⟨(nth fy ty (i + 1)).toNat, by omega⟩
      obtain ⟨nz, hnz⟩ : ∃ nz : Int, nth fz tz (i + 1) = nz := ⟨_, rfl⟩
      rw [hnx] at x0 x1 wa1 HWS
      rw [hny] at y0 y1 wa2 HWS
      rw [hnz] at z0 z1 wa3 HWS
      simp only [Int.toNat_natCast] at HWS
      have hwi := (unhide HWV).2.below (unhide HWi) (unhide HWV).1
      have c1 := hwi _ _ wa1
      have c2 := hwi _ _ wa2
      have c3 := hwi _ _ wa3
      simp only [Nat.zero_add] at c1 c2 c3
      have HUMi := hide (fun X => (unhide HUM) q cap nx ny X hc1 hc2 (by omega) (by omega))
      have HUPi := hide (fun X => (unhide HUP) nx ny X (by omega) (by omega))
      obtain ⟨hpk1, hpk2⟩ := (unhide HPK) nx ny (by omega) (by omega)
      have HPK1 := hide hpk1
      have hA : Below wr.heap.size wr (wr.alloc (.cells #[.int .i64 (nx : Int), .int .i64 (ny : Int), .int .i64 nz] 68)) := ba (Below.refl _ _) _
      have HA0 := hide (vb_new wr 68 [.int .i64 (nx : Int), .int .i64 (ny : Int), .int .i64 nz] wr.heap.size rfl)
      have HPa := hide ((unhide HPi).bel hA)
      have HVPa := hide ((unhide HVPi).bel hA)
      have HVZa := hide ((unhide HVZi).bel hA)
      have HWa := hide (bc (unhide HWi) hA)
      obtain ⟨sk, hsk⟩ : ∃ sk, (walkC P W H r fast fx fy fz tx ty tz s i).2 = sk := ⟨_, rfl⟩
      rw [hsk] at HPa HWS hok hai1 hai2
      have p2 := (unhide HPa).v.cell (m := 2) rfl
      have p3 := (unhide HPa).v.cell (m := 3) rfl
      have p4 := (unhide HPa).v.cell (m := 4) rfl
      have HOK := hide hok
      clear hA hnx hny hnz wa1 wa2 wa3 hwi hpk1 hsk hok
      go_wp2_with fail
      generalize wr.alloc (.cells #[.int .i64 (nx : Int), .int .i64 (ny : Int), .int .i64 nz] 68) = Wa at *
      generalize wr.heap.size = A at *
      have HGP := hide (fun (Bv : Nat) (v : Value) (X : World) (hX : Below w.heap.size w X) (hp : Pcs X Bv v g po (pieces W H r nx ny)) (hv : v ≠ .slice none 0 0) => hgP_any v Bv g po (pieces W H r nx ny) P X hp hv ((unhide HPF).bel hX).ints (by rw [(unhide HPF).len]; exact unhide HPK1) (by rw [(unhide HPF).len]; exact hnb) hpk2)
      have HGM := hide (fun (Bv : Nat) (v : Value) (X : World) (hX : Pn X (w.heap.size + 3) w.heap.size e b W H q n cap sk) (hp : Pcs X Bv v q 0 (pieces W H r nx ny)) (hv : v ≠ .slice none 0 0) => hgP_any v Bv q 0 (pieces W H r nx ny) sk.T X hp hv hX.row.ints (by rw [(unhide HOK).len]; exact unhide HPK1) (by rw [(unhide HOK).len]; exact hnb) hpk2)
      have HTK := hide (fun (Bv : Nat) (v : Value) (X : World) (hX : Pn X (w.heap.size + 3) w.heap.size e b W H q n cap sk) (hp : Pcs X Bv v q 0 (pieces W H r nx ny)) (hv : v ≠ .slice none 0 0) (h1 : q < Bv) (h2 : w.heap.size < Bv) => tkP_any v Bv (w.heap.size + 3) w.heap.size e b W H q n cap (pieces W H r nx ny) nz sk X hp hv (unhide HPK1) hpk2 hnb ⟨z0, z1⟩ (unhide HOK) (by omega) h1 h2 hX)
      rw [show flatP (pieces W H r nx ny) = cols W H r nx ny from rfl] at HGP HGM HTK
      obtain ⟨hP, ehP⟩ : ∃ hP, hi P (cols W H r nx ny) = hP := ⟨_, rfl⟩
      obtain ⟨hM, ehM⟩ : ∃ hM, hi sk.T (cols W H r nx ny) = hM := ⟨_, rfl⟩
      have HPC : Hid (placeC P (cols W H r nx ny) nz fast sk = if nz < hP then (16, sk) else if nz < hM then (if fast then (17, sk) else (0, takeC nz sk (cols W H r nx ny))) else (0, if fast then sk else ⟨sk.T, sk.cut, sk.air + 1, sk.dep⟩)) := hide (by unfold placeC; rw [ehP, ehM])
      rw [ehP] at HGP
      rw [ehM] at HGM
      have HQA : Hid (q < Wa.heap.size ∧ w.heap.size < Wa.heap.size) := hide ⟨(World.ownsRow.lt (unhide HPa).row q rfl).2, (unhide HPa).v.lt⟩
      clear ehP ehM
      refine (unhide HUMi _).mono ?_
      rintro x W4 ⟨⟨pv, rfl, hpv, hps⟩, hb4⟩
      have HAa := HA0
      have HPV := hide hpv
      have HPS4 := hide hps
      have HA4 := hide ((unhide HAa).bel hb4)
      have HP4 := hide ((unhide HPa).bel hb4)
      have HVP4 := hide ((unhide HVPa).bel hb4)
      have HVZ4 := hide ((unhide HVZa).bel hb4)
      have HW4 := hide (bc (unhide HWa) hb4)
      have a0 := (unhide HA4).cell (m := 0) rfl
      have a1 := (unhide HA4).cell (m := 1) rfl
      have a2 := (unhide HA4).cell (m := 2) rfl
      have q0' := (unhide HVP4).cell (m := 0) rfl
      have q1' := (unhide HVP4).cell (m := 1) rfl
      have q2' := (unhide HVP4).cell (m := 2) rfl
      clear hb4 hpv hps c1 c2 c3 p2 p3 p4
      go_upto_region 7 with fail
      go_cut [34] (fun sv wx => sv = .bool (decide (nz < hP)) ∧ Below W4.heap.size W4 wx)
      case first =>
        go_region_held3 (fun wx => wx.cell? ⟨A, 0, none⟩ = some (.int .i64 (nx : Int)) ∧ wx.cell? ⟨A, 1, none⟩ = some (.int .i64 (ny : Int)) ∧ wx.cell? ⟨A, 2, none⟩ = some (.int .i64 nz) ∧ wx.cell? ⟨w.heap.size + 1, 0, none⟩ = some (.int .i64 (W : Int)) ∧ wx.cell? ⟨w.heap.size + 1, 1, none⟩ = some (.int .i64 (H : Int)) ∧ wx.cell? ⟨w.heap.size + 1, 2, none⟩ = some (.slice (some ⟨g, po, none⟩) n c))
          (simp (maxDischargeDepth := 12) [go_sem, le1, lt1, *])
          (first
          | (go_at_call 69; refine (unhide HUPi _).mono ?_; rintro x w' ⟨⟨v2, rfl, hv2, hps2⟩, hb⟩; have HBx := hide (show Below W4.heap.size W4 w' from bc (by repeat (first | exact Below.refl _ _ | refine bel_dn' ?_ _ | refine Below.drew ?_)) hb); have HPS2 := hide hps2; have HV2 := hide hv2; have s0 := keep1 hb (b := A) (o := 0) (v := .int .i64 (nx : Int)) (by simp (maxDischargeDepth := 12) [go_sem, le1, lt1, *]); have s1 := keep1 hb (b := A) (o := 1) (v := .int .i64 (ny : Int)) (by simp (maxDischargeDepth := 12) [go_sem, le1, lt1, *]); have s2 := keep1 hb (b := A) (o := 2) (v := .int .i64 nz) (by simp (maxDischargeDepth := 12) [go_sem, le1, lt1, *]); have s3 := keep1 hb (b := w.heap.size + 1) (o := 0) (v := .int .i64 (W : Int)) (by simp (maxDischargeDepth := 12) [go_sem, le1, lt1, *]); have s4 := keep1 hb (b := w.heap.size + 1) (o := 1) (v := .int .i64 (H : Int)) (by simp (maxDischargeDepth := 12) [go_sem, le1, lt1, *]); have s5 := keep1 hb (b := w.heap.size + 1) (o := 2) (v := .slice (some ⟨g, po, none⟩) n c) (by simp (maxDischargeDepth := 12) [go_sem, le1, lt1, *]); clear hb hps2 hv2)
          | (go_at_call 48; refine (unhide HGP _ _ _ (bc (unhide HW4) (by repeat (first | exact unhide HBx | refine bel_dn' ?_ _ | refine Below.drew ?_))) (by exact unhide HPS2) (unhide HV2)).mono ?_; rintro x w' ⟨rfl, hs⟩; have hb := bel_of_same hs; have HBy := hide (show Below W4.heap.size W4 w' from bc (by repeat (first | exact unhide HBx | refine bel_dn' ?_ _ | refine Below.drew ?_)) hb); have t0 := keep1 hb (b := A) (o := 0) (v := .int .i64 (nx : Int)) (by simp (maxDischargeDepth := 12) [go_sem, le1, lt1, *]); have t1 := keep1 hb (b := A) (o := 1) (v := .int .i64 (ny : Int)) (by simp (maxDischargeDepth := 12) [go_sem, le1, lt1, *]); have t2 := keep1 hb (b := A) (o := 2) (v := .int .i64 nz) (by simp (maxDischargeDepth := 12) [go_sem, le1, lt1, *]); have t3 := keep1 hb (b := w.heap.size + 1) (o := 0) (v := .int .i64 (W : Int)) (by simp (maxDischargeDepth := 12) [go_sem, le1, lt1, *]); have t4 := keep1 hb (b := w.heap.size + 1) (o := 1) (v := .int .i64 (H : Int)) (by simp (maxDischargeDepth := 12) [go_sem, le1, lt1, *]); have t5 := keep1 hb (b := w.heap.size + 1) (o := 2) (v := .slice (some ⟨g, po, none⟩) n c) (by simp (maxDischargeDepth := 12) [go_sem, le1, lt1, *]); clear hb hs))
        all_goals
          go_wp2_with fail
          go_meet
          case rel => exact ⟨rfl, (by repeat (first | exact unhide HBy | refine bel_dn' ?_ _ | refine Below.drew ?_))⟩
      case rest =>
      obtain ⟨rfl, hw5⟩ := hcut
      have HA5 := hide ((unhide HA4).bel hw5)
      have HP5 := hide ((unhide HP4).bel hw5)
      have HVP5 := hide ((unhide HVP4).bel hw5)
      have HVZ5 := hide ((unhide HVZ4).bel hw5)
      have HW5 := hide (bc (unhide HW4) hw5)
      have HPS5 := hide (show Pcs wc Wa.heap.size pv q 0 (pieces W H r nx ny) from own_bel (unhide HPS4) hw5)
      clear hw5 a0 a1 a2 q0' q1' q2'
      generalize hW5e : wc = W5 at *
      clear hW5e
      by_cases hg : nz < hP
      · rw [decide_eq_true hg]
        have HWN : Hid (walkC P W H r fast fx fy fz tx ty tz s (i + 1) = (16, sk)) := hide (by rw [unhide HWS, unhide HPC, if_pos hg])
        have HCO : Hid ((16 : Int) = (walkC P W H r fast fx fy fz tx ty tz s N).1) := hide (by rw [(unhide HSTi) (by rw [unhide HWN]; simp), unhide HWN])
        have p0 := (unhide HP5).v.cell (m := 0) rfl
        have p1 := (unhide HP5).v.cell (m := 1) rfl
        have p2 := (unhide HP5).v.cell (m := 2) rfl
        have p3 := (unhide HP5).v.cell (m := 3) rfl
        have p4 := (unhide HP5).v.cell (m := 4) rfl
        have p5 := (unhide HP5).v.cell (m := 5) rfl
        have p6 := (unhide HP5).v.cell (m := 6) rfl
        have p7 := (unhide HP5).v.cell (m := 7) rfl
        have q0 := (unhide HVZ5).cell (m := 0) rfl
        have q1 := (unhide HVZ5).cell (m := 1) rfl
        have q2 := (unhide HVZ5).cell (m := 2) rfl
        have q3 := (unhide HVZ5).cell (m := 3) rfl
        have q4 := (unhide HVZ5).cell (m := 4) rfl
        have q5 := (unhide HVZ5).cell (m := 5) rfl
        have q6 := (unhide HVZ5).cell (m := 6) rfl
        have q7 := (unhide HVZ5).cell (m := 7) rfl
        have zf := (unhide HVZ5).frozen
        go_wp2_with fail
        (try rw [Exit.noGoto_ret])
        refine bodyPost_ret (v := .tuple #[.agg (pnV e b W H q n cap sk).toArray, .int .i64 16]) (by simp [results, Try.results43, go_sem, pnV, p0, p1, p2, p3, p4, p5, p6, p7, q0, q1, q2, q3, q4, q5, q6, q7]) rfl ?_
        have hle : w.heap.size ≤ w.heap.size + 2 := by omega
        refine ⟨⟨q, cap, sk, 16, rfl, ?_, unhide HCO, fun h0 => by first | (exact absurd h0 (by omega)) | exact unhide HST0⟩, ?_⟩
        · refine ((unhide HP5).row.kept' (fun y hy => ?_)).mono (by omega)
          have hge := (World.ownsRow.lt (unhide HP5).row y hy).1
          have hne : y ≠ w.heap.size + 2 := by omega
          exact (Below.heap_setCell _ _ _ _ hne).trans ((Below.heap_setCell _ _ _ _ hne).trans ((Below.heap_setCell _ _ _ _ hne).trans ((Below.heap_setCell _ _ _ _ hne).trans ((Below.heap_setCell _ _ _ _ hne).trans ((Below.heap_setCell _ _ _ _ hne).trans ((Below.heap_setCell _ _ _ _ hne).trans (Below.heap_setCell _ _ _ _ hne)))))))
        · exact Below.setCell (Below.setCell (Below.setCell (Below.setCell (Below.setCell (Below.setCell (Below.setCell (Below.setCell (unhide HW5) hle _) hle _) hle _) hle _) hle _) hle _) hle _) hle _
      rw [decide_eq_false hg]
      by_cases hm : nz < hM
      · have tm := decide_eq_true hm
        have a2 := (unhide HA5).cell (m := 2) rfl
        go_upto_region 9 with fail
        go_cut [46] (fun sv wx => sv = .bool fast ∧ Below W5.heap.size W5 wx)
        case first =>
          go_region_held3 (fun wx => wx.cell? ⟨A, 2, none⟩ = some (.int .i64 nz))
            (simp (maxDischargeDepth := 12) [go_sem, le1, lt1, *])
            (first
            | (go_at_call 48; refine (unhide HGM Wa.heap.size _ _ ((unhide HP5).bel (by repeat (first | exact Below.refl _ _ | refine bel_dn' ?_ _ | refine Below.drew ?_))) (own_bel (unhide HPS5) (by repeat (first | exact Below.refl _ _ | refine bel_dn' ?_ _ | refine Below.drew ?_))) (unhide HPV)).mono ?_; rintro x w' ⟨rfl, hs⟩; have hb := bel_of_same hs; have HBy := hide (show Below W5.heap.size W5 w' from bc (by repeat (first | exact Below.refl _ _ | refine bel_dn' ?_ _ | refine Below.drew ?_)) hb); have t0 := keep1 hb (b := A) (o := 2) (v := .int .i64 nz) (by simp (maxDischargeDepth := 12) [go_sem, le1, lt1, *]); clear hb hs))
          all_goals
            go_wp2_with fail
            go_meet
            case rel => exact ⟨by first | rfl | simp, (by repeat (first | exact unhide HBy | refine bel_dn' ?_ _ | refine Below.drew ?_))⟩
        case rest =>
        obtain ⟨rfl, hw6⟩ := hcut
        have HA6 := hide ((unhide HA5).bel hw6)
        have HP6 := hide ((unhide HP5).bel hw6)
        have HVP6 := hide ((unhide HVP5).bel hw6)
        have HVZ6 := hide ((unhide HVZ5).bel hw6)
        have HW6 := hide (bc (unhide HW5) hw6)
        have HPS6 := hide (show Pcs wc Wa.heap.size pv q 0 (pieces W H r nx ny) from own_bel (unhide HPS5) hw6)
        clear hw6 a2
        generalize hW6e : wc = W6 at *
        clear hW6e
        cases fast with
        | true =>
          have HWN : Hid (walkC P W H r true fx fy fz tx ty tz s (i + 1) = (17, sk)) := hide (by rw [unhide HWS, unhide HPC, if_neg hg, if_pos hm, if_pos rfl])
          have HCO : Hid ((17 : Int) = (walkC P W H r true fx fy fz tx ty tz s N).1) := hide (by rw [(unhide HSTi) (by rw [unhide HWN]; simp), unhide HWN])
          have p0 := (unhide HP6).v.cell (m := 0) rfl
          have p1 := (unhide HP6).v.cell (m := 1) rfl
          have p2 := (unhide HP6).v.cell (m := 2) rfl
          have p3 := (unhide HP6).v.cell (m := 3) rfl
          have p4 := (unhide HP6).v.cell (m := 4) rfl
          have p5 := (unhide HP6).v.cell (m := 5) rfl
          have p6 := (unhide HP6).v.cell (m := 6) rfl
          have p7 := (unhide HP6).v.cell (m := 7) rfl
          have q0 := (unhide HVZ6).cell (m := 0) rfl
          have q1 := (unhide HVZ6).cell (m := 1) rfl
          have q2 := (unhide HVZ6).cell (m := 2) rfl
          have q3 := (unhide HVZ6).cell (m := 3) rfl
          have q4 := (unhide HVZ6).cell (m := 4) rfl
          have q5 := (unhide HVZ6).cell (m := 5) rfl
          have q6 := (unhide HVZ6).cell (m := 6) rfl
          have q7 := (unhide HVZ6).cell (m := 7) rfl
          have zf := (unhide HVZ6).frozen
          go_wp2_with fail
          (try rw [Exit.noGoto_ret])
          refine bodyPost_ret (v := .tuple #[.agg (pnV e b W H q n cap sk).toArray, .int .i64 17]) (by simp [results, Try.results43, go_sem, pnV, p0, p1, p2, p3, p4, p5, p6, p7, q0, q1, q2, q3, q4, q5, q6, q7]) rfl ?_
          have hle : w.heap.size ≤ w.heap.size + 2 := by omega
          refine ⟨⟨q, cap, sk, 17, rfl, ?_, unhide HCO, fun h0 => by first | (exact absurd h0 (by omega)) | exact unhide HST0⟩, ?_⟩
          · refine ((unhide HP6).row.kept' (fun y hy => ?_)).mono (by omega)
            have hge := (World.ownsRow.lt (unhide HP6).row y hy).1
            have hne : y ≠ w.heap.size + 2 := by omega
            exact (Below.heap_setCell _ _ _ _ hne).trans ((Below.heap_setCell _ _ _ _ hne).trans ((Below.heap_setCell _ _ _ _ hne).trans ((Below.heap_setCell _ _ _ _ hne).trans ((Below.heap_setCell _ _ _ _ hne).trans ((Below.heap_setCell _ _ _ _ hne).trans ((Below.heap_setCell _ _ _ _ hne).trans (Below.heap_setCell _ _ _ _ hne)))))))
          · exact Below.setCell (Below.setCell (Below.setCell (Below.setCell (Below.setCell (Below.setCell (Below.setCell (Below.setCell (unhide HW6) hle _) hle _) hle _) hle _) hle _) hle _) hle _) hle _
        | false =>
          have HWN : Hid (walkC P W H r false fx fy fz tx ty tz s (i + 1) = (0, takeC nz sk (cols W H r nx ny))) := hide (by rw [unhide HWS, unhide HPC, if_neg hg, if_pos hm, if_neg (by simp)])
          have a2 := (unhide HA6).cell (m := 2) rfl
          go_upto_region 11 with fail
          go_cut [55] (fun sv wx => sv = .bool true ∧ Below W6.heap.size W6 wx)
          case first =>
            go_region_held3 (fun wx => wx.cell? ⟨A, 2, none⟩ = some (.int .i64 nz))
              (simp (maxDischargeDepth := 12) [go_sem, le1, lt1, *])
              (first
              | (go_at_call 48; refine (unhide HGM Wa.heap.size _ _ ((unhide HP6).bel (by repeat (first | exact Below.refl _ _ | refine bel_dn' ?_ _ | refine Below.drew ?_))) (own_bel (unhide HPS6) (by repeat (first | exact Below.refl _ _ | refine bel_dn' ?_ _ | refine Below.drew ?_))) (unhide HPV)).mono ?_; rintro x w' ⟨rfl, hs⟩; have hb := bel_of_same hs; have HBy := hide (show Below W6.heap.size W6 w' from bc (by repeat (first | exact Below.refl _ _ | refine bel_dn' ?_ _ | refine Below.drew ?_)) hb); have t0 := keep1 hb (b := A) (o := 2) (v := .int .i64 nz) (by simp (maxDischargeDepth := 12) [go_sem, le1, lt1, *]); clear hb hs))
            all_goals
              go_wp2_with fail
              go_meet
              case rel => exact ⟨by first | rfl | simp, (by repeat (first | exact unhide HBy | refine bel_dn' ?_ _ | refine Below.drew ?_))⟩
          case rest =>
          obtain ⟨rfl, hw7⟩ := hcut
          have HA7 := hide ((unhide HA6).bel hw7)
          have HP7 := hide ((unhide HP6).bel hw7)
          have HVP7 := hide ((unhide HVP6).bel hw7)
          have HVZ7 := hide ((unhide HVZ6).bel hw7)
          have HW7 := hide (bc (unhide HW6) hw7)
          have HPS7 := hide (show Pcs wc Wa.heap.size pv q 0 (pieces W H r nx ny) from own_bel (unhide HPS6) hw7)
          clear hw7 a2
          generalize hW7e : wc = W7 at *
          clear hW7e
          have a2 := (unhide HA7).cell (m := 2) rfl
          go_wp2_with fail
          refine (unhide HTK _ _ _ (unhide HP7) (unhide HPS7) (unhide HPV) (unhide HQA).1 (unhide HQA).2).mono ?_
          rintro x W8 ⟨rfl, hp8, hm8⟩
          have HP8 := hide hp8
          have HVP8 := hide ((unhide HVP7).mq hm8 (by omega) (by omega))
          have HVZ8 := hide ((unhide HVZ7).mq hm8 (by omega) (by omega))
          have HW8 : Hid (Below w.heap.size w W8) := hide ((unhide HW7).trans (hm8.belw (C := w.heap.size) (by have := (unhide HP7).v.lt; omega) (Nat.le_refl _) (by omega)))
          clear hp8 hm8 a2
          go_wp2_with fail
          go_roundw
          case rel => exact ⟨i + 1, by simp, h, rfl, by rw [unhide HWN], by rw [unhide HWN]; exact unhide HP8, unhide HVP8, unhide HVZ8, unhide HW8⟩
          case measure => simp only [intOf]; omega
      · have tm := decide_eq_false hm
        have a2 := (unhide HA5).cell (m := 2) rfl
        go_wp2_with fail
        refine Go.Code.wp_mono (Only.to (fun _ _ h => h)) (af9 (hM := hM) (nz := nz) (by omega) (hide a2) (hide fun X hX => ((unhide HGM) Wa.heap.size _ X ((unhide HP5).bel hX) (own_bel (unhide HPS5) hX) (unhide HPV)).mono (fun _ _ h => ⟨h.1, bel_of_same h.2⟩)) (fun wc hw6 => ?_))
        have HA6 := hide ((unhide HA5).bel hw6)
        have HP6 := hide ((unhide HP5).bel hw6)
        have HVP6 := hide ((unhide HVP5).bel hw6)
        have HVZ6 := hide ((unhide HVZ5).bel hw6)
        have HW6 := hide (bc (unhide HW5) hw6)
        have HPS6 := hide (show Pcs wc Wa.heap.size pv q 0 (pieces W H r nx ny) from own_bel (unhide HPS5) hw6)
        clear hw6 a2
        generalize hW6e : wc = W6 at *
        clear hW6e
        have a2 := (unhide HA6).cell (m := 2) rfl
        go_upto_region 11 with fail
        go_cut [55] (fun sv wx => sv = .bool false ∧ Below W6.heap.size W6 wx)
        case first =>
          go_region_held3 (fun wx => wx.cell? ⟨A, 2, none⟩ = some (.int .i64 nz))
            (simp (maxDischargeDepth := 12) [go_sem, le1, lt1, *])
            (first
            | (go_at_call 48; refine (unhide HGM Wa.heap.size _ _ ((unhide HP6).bel (by repeat (first | exact Below.refl _ _ | refine bel_dn' ?_ _ | refine Below.drew ?_))) (own_bel (unhide HPS6) (by repeat (first | exact Below.refl _ _ | refine bel_dn' ?_ _ | refine Below.drew ?_))) (unhide HPV)).mono ?_; rintro x w' ⟨rfl, hs⟩; have hb := bel_of_same hs; have HBy := hide (show Below W6.heap.size W6 w' from bc (by repeat (first | exact Below.refl _ _ | refine bel_dn' ?_ _ | refine Below.drew ?_)) hb); have t0 := keep1 hb (b := A) (o := 2) (v := .int .i64 nz) (by simp (maxDischargeDepth := 12) [go_sem, le1, lt1, *]); clear hb hs))
          all_goals
            go_wp2_with fail
            go_meet
            case rel => exact ⟨by first | rfl | simp, (by repeat (first | exact unhide HBy | refine bel_dn' ?_ _ | refine Below.drew ?_))⟩
        case rest =>
        obtain ⟨rfl, hw7⟩ := hcut
        have HA7 := hide ((unhide HA6).bel hw7)
        have HP7 := hide ((unhide HP6).bel hw7)
        have HVP7 := hide ((unhide HVP6).bel hw7)
        have HVZ7 := hide ((unhide HVZ6).bel hw7)
        have HW7 := hide (bc (unhide HW6) hw7)
        have HPS7 := hide (show Pcs wc Wa.heap.size pv q 0 (pieces W H r nx ny) from own_bel (unhide HPS6) hw7)
        clear hw7 a2
        generalize hW7e : wc = W7 at *
        clear hW7e
        cases fast with
        | true =>
          have HWN : Hid (walkC P W H r true fx fy fz tx ty tz s (i + 1) = (0, sk)) := hide (by rw [unhide HWS, unhide HPC, if_neg (show ¬ nz < hP by omega), if_neg (show ¬ nz < hM by omega), if_pos rfl])
          go_wp2_with fail
          go_roundw
          case rel => exact ⟨i + 1, by simp, h, rfl, by rw [unhide HWN], by rw [unhide HWN]; exact unhide HP7, unhide HVP7, unhide HVZ7, unhide HW7⟩
          case measure => simp only [intOf]; omega
        | false =>
          have HWN : Hid (walkC P W H r false fx fy fz tx ty tz s (i + 1) = (0, ⟨sk.T, sk.cut, sk.air + 1, sk.dep⟩)) := hide (by rw [unhide HWS, unhide HPC, if_neg (show ¬ nz < hP by omega), if_neg (show ¬ nz < hM by omega), if_neg (by simp)])
          have p6 := (unhide HP7).v.cell (m := 6) rfl
          have pf := (unhide HP7).v.frozen
          have wa : IntKind.i64.wrap (sk.air + 1) = sk.air + 1 := Go.IntWalk.i64_in _ ⟨by omega, by omega⟩
          have hq9 : w.heap.size ≠ q := by omega
          go_wp2_with fail
          go_roundw
          case rel => exact ⟨i + 1, by simp, h, rfl, by rw [unhide HWN], by rw [unhide HWN]; exact (unhide HP7).setAir hq9 (sk.air + 1), (unhide HVP7).ne (by omega), (unhide HVZ7).ne (by omega), Below.setCell (unhide HW7) (Nat.le_refl _) _⟩
          case measure => simp only [intOf]; omega
    · have lz : decide ((i : Int) < (N : Int)) = false := decide_eq_false (by omega)
      obtain rfl : i = N := by omega
      have HCO : Hid ((0 : Int) = (walkC P W H r fast fx fy fz tx ty tz s i).1) := hide (unhide HI0).symm
      have HST0 : Hid ((walkC P W H r fast fx fy fz tx ty tz s i).2 = (walkC P W H r fast fx fy fz tx ty tz s i).2) := hide rfl
      have p0 := (unhide HPi).v.cell (m := 0) rfl
      have p1 := (unhide HPi).v.cell (m := 1) rfl
      have p2 := (unhide HPi).v.cell (m := 2) rfl
      have p3 := (unhide HPi).v.cell (m := 3) rfl
      have p4 := (unhide HPi).v.cell (m := 4) rfl
      have p5 := (unhide HPi).v.cell (m := 5) rfl
      have p6 := (unhide HPi).v.cell (m := 6) rfl
      have p7 := (unhide HPi).v.cell (m := 7) rfl
      have q0 := (unhide HVZi).cell (m := 0) rfl
      have q1 := (unhide HVZi).cell (m := 1) rfl
      have q2 := (unhide HVZi).cell (m := 2) rfl
      have q3 := (unhide HVZi).cell (m := 3) rfl
      have q4 := (unhide HVZi).cell (m := 4) rfl
      have q5 := (unhide HVZi).cell (m := 5) rfl
      have q6 := (unhide HVZi).cell (m := 6) rfl
      have q7 := (unhide HVZi).cell (m := 7) rfl
      have zf := (unhide HVZi).frozen
      go_wp2_with fail
      (try rw [Exit.noGoto_ret])
      refine bodyPost_ret (v := .tuple #[.agg (pnV e b W H q n cap (walkC P W H r fast fx fy fz tx ty tz s i).2).toArray, .int .i64 0]) (by simp [results, Try.results43, go_sem, pnV, p0, p1, p2, p3, p4, p5, p6, p7, q0, q1, q2, q3, q4, q5, q6, q7]) rfl ?_
      have hle : w.heap.size ≤ w.heap.size + 2 := by omega
      refine ⟨⟨q, cap, (walkC P W H r fast fx fy fz tx ty tz s i).2, 0, rfl, ?_, unhide HCO, fun h0 => rfl⟩, ?_⟩
      · refine ((unhide HPi).row.kept' (fun y hy => ?_)).mono (by omega)
        have hge := (World.ownsRow.lt (unhide HPi).row y hy).1
        have hne : y ≠ w.heap.size + 2 := by omega
        exact (Below.heap_setCell _ _ _ _ hne).trans ((Below.heap_setCell _ _ _ _ hne).trans ((Below.heap_setCell _ _ _ _ hne).trans ((Below.heap_setCell _ _ _ _ hne).trans ((Below.heap_setCell _ _ _ _ hne).trans ((Below.heap_setCell _ _ _ _ hne).trans ((Below.heap_setCell _ _ _ _ hne).trans (Below.heap_setCell _ _ _ _ hne)))))))
      · exact Below.setCell (Below.setCell (Below.setCell (Below.setCell (Below.setCell (Below.setCell (Below.setCell (Below.setCell (unhide HWi) hle _) hle _) hle _) hle _) hle _) hle _) hle _) hle _
end Go.Proofs.Ytbjljofgpbecbaa
