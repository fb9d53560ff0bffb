/-
  The law of floors, for a job that is right.
-/
import Derived.Test.YtbjljofgpbecbaaFfMath
import Derived.Test.YtbjljofgpbecbaaFf17
import Derived.Test.YtbjljofgpbecbaaKeep
import Derived.Test.YtbjljofgpbecbaaSmI
import Derived.Test.YtbjljofgpbecbaaJobOf
import Derived.Test.YtbjljofgpbecbaaMvOf
import Derived.Test.YtbjljofgpbecbaaMilM
import Derived.Test.YtbjljofgpbecbaaFlmB
import Derived.Test.YtbjljofgpbecbaaRst
namespace Go.Proofs.Ytbjljofgpbecbaa
open Go.ChangeShapes Go.WideShapes Go.ChangeAt Go.RowKit
set_option linter.unusedVariables false
set_option linter.unusedSimpArgs false

set_option maxHeartbeats 8000000 in
set_option maxRecDepth 100000 in
theorem fnFloor_core (a a2 : Option Addr) (len cap len2 cap2 : Nat) (zs zs2 : List Int) (w : World) (hl : len ≤ 1048576) (hl2 : len2 ≤ 1048576) (hc : Code w.heap.size w a len cap zs) (hc2 : Code w.heap.size w a2 len2 cap2 zs2) :
    Calls Try.prog 4 #[.slice a len cap, .slice a2 len2 cap2] w fun e w' => e = .returned (.bool true) ∧ Below w.heap.size w w' := by
  have HJ := hide (jobOf_any a len cap zs w hc (by omega))
  have HC2 := hide (fun X (hX : Below w.heap.size w X) => codeUp hc2 hX)
  have t1 : decide ((1048576 : Int) < (len : Int)) = false := decide_eq_false (by omega)
  have t2 : decide ((1048576 : Int) < (len2 : Int)) = false := decide_eq_false (by omega)
  clear hc hc2
  go_enter Try.func4, Try.ntmps4
  go_wp2_with fail
  refine (unhide HJ).mono ?_
  rintro e W1 ⟨⟨W, H, r, gs, pos, cs, g, po, c, n, S, P, rfl, hj⟩, hb1⟩
  have HJK : Hid (1 ≤ W ∧ W ≤ 24 ∧ 1 ≤ H ∧ H ≤ 24 ∧ r ≤ 3 ∧ n = W * H) := hide ⟨hj.W1, hj.W2, hj.H1, hj.H2, hj.r3, hj.n_⟩
  have HOK := hide hj.oks
  have HST := hide hj.st
  have hA : Below W1.heap.size W1 ((W1.alloc (.cells #[.int .i64 (W : Int), .int .i64 (H : Int), .slice (some ⟨gs, pos, none⟩) n cs] 25)).alloc (.cells #[.int .i64 (W : Int), .int .i64 (H : Int), .slice (some ⟨g, po, none⟩) n c] 25)) := ba (ba (Below.refl _ _) _) _
  have HK : Hid (Keep w [(W1.heap.size, 25, [.int .i64 (W : Int), .int .i64 (H : Int), .slice (some ⟨gs, pos, none⟩) n cs]), (W1.heap.size + 1, 25, [.int .i64 (W : Int), .int .i64 (H : Int), .slice (some ⟨g, po, none⟩) n c])] [(gs, pos, n, cs, S), (g, po, n, c, P)] ((W1.alloc (.cells #[.int .i64 (W : Int), .int .i64 (H : Int), .slice (some ⟨gs, pos, none⟩) n cs] 25)).alloc (.cells #[.int .i64 (W : Int), .int .i64 (H : Int), .slice (some ⟨g, po, none⟩) n c] 25))) := hide
    ((((⟨bc hb1 hA, (fun _ h => nomatch h), (fun _ h => nomatch h)⟩ : Keep w [] [] ((W1.alloc (.cells #[.int .i64 (W : Int), .int .i64 (H : Int), .slice (some ⟨gs, pos, none⟩) n cs] 25)).alloc (.cells #[.int .i64 (W : Int), .int .i64 (H : Int), .slice (some ⟨g, po, none⟩) n c] 25))).addv (vb_new2 W1 25 [.int .i64 (W : Int), .int .i64 (H : Int), .slice (some ⟨g, po, none⟩) n c] (.cells #[.int .i64 (W : Int), .int .i64 (H : Int), .slice (some ⟨gs, pos, none⟩) n cs] 25))).addv (vb_new1 W1 25 [.int .i64 (W : Int), .int .i64 (H : Int), .slice (some ⟨gs, pos, none⟩) n cs] (.cells #[.int .i64 (W : Int), .int .i64 (H : Int), .slice (some ⟨g, po, none⟩) n c] 25))).addf (hj.fp.bel hA) |>.addf (hj.fs.bel hA))
  have hr3 := hj.r3
  have hnb : n ≤ 576 := by rw [hj.n_]; exact Nat.mul_le_mul hj.W2 hj.H2
  have hn1 : 1 ≤ n := by rw [hj.n_]; exact Nat.mul_pos hj.W1 hj.H1
  clear hj hb1 hA HJ
  have HFP := hide (fun (r' q p' c' : Nat) (T : List Int) (X : World) (hO : FOk (W : Int) (H : Int) T) (hr : r' ≤ 3) (hF : Fd X q p' n c' T) => flP_good W H r' q p' n c' T X hO hr hF)
  have HFM := hide (fun (X : World) (hF : Fd X g po n c P) => flM_good W H r g po n c P X (unhide HOK).2.1 hr3 hF)
  have HSM := hide (fun (q q' c1 c2 p1 p2 : Nat) (L : List Int) (X : World) (h1 : Fd X q p1 n c1 L) (h2 : Fd X q' p2 n c2 L) => sm_same (some ⟨q, p1, none⟩) (some ⟨q', p2, none⟩) q p1 q' p2 n c1 c2 L X h1.len (by omega) h1.its h2.its)
  have HRP := hide (fun (q c1 : Nat) (A : List Int) (X : World) (h1 : Fd X q 0 n c1 A) (h2 : Fd X g po n c P) => rsP_any W H (some ⟨q, 0, none⟩) q 0 n c1 A W H (some ⟨g, po, none⟩) g po n c P X h1.len (by omega) h1.its h2.len (by omega) h2.its)
  have HRM := hide (fun (q c1 : Nat) (A : List Int) (X : World) (h1 : Fd X q 0 n c1 A) (h2 : Fd X g po n c P) => rsM_any W H (some ⟨q, 0, none⟩) q 0 n c1 A W H (some ⟨g, po, none⟩) g po n c P X h1.len (by omega) h1.its h2.len (by omega) h2.its)
  have HPT : Hid (∀ i, 0 ≤ tp P i ∧ tp P i ≤ 24) := hide (unhide HOK).2.1.tops_tp
  have HGE : Hid (∀ i, i < n → tp P i ≤ tp (flL W H r P) i) := hide (fun i hi => fl_ge hr3 (unhide HPT) (by rw [← (unhide HJK).2.2.2.2.2]; exact hi))
  unfold fldV at *
  go_upto_region 4 with fail
  generalize (W1.alloc (.cells #[.int .i64 (W : Int), .int .i64 (H : Int), .slice (some ⟨gs, pos, none⟩) n cs] 25)).alloc (.cells #[.int .i64 (W : Int), .int .i64 (H : Int), .slice (some ⟨g, po, none⟩) n c] 25) = Wa at *
  generalize W1.heap.size = b5 at *
  have k0 := ((unhide HK).vat 1 rfl).cell (m := 0) rfl
  have k1 := ((unhide HK).vat 1 rfl).cell (m := 1) rfl
  have k2 := ((unhide HK).vat 1 rfl).cell (m := 2) rfl
  go_wp2_with fail
  refine (unhide HFP r g po c P _ (unhide HOK).2.1 hr3 ((unhide HK).fat 1 rfl)).mono ?_
  rintro e W2 ⟨⟨qf, cf, rfl, hrow⟩, hb2⟩
  have hA : Below W2.heap.size W2 (W2.alloc (.cells #[.int .i64 (W : Int), .int .i64 (H : Int), .slice (some ⟨qf, 0, none⟩) n cf] 25)) := ba (Below.refl _ _) _
  have HK2 := hide ((((unhide HK).next hb2).next hA).addv (vb_new W2 25 [.int .i64 (W : Int), .int .i64 (H : Int), .slice (some ⟨qf, 0, none⟩) n cf] _ rfl) |>.addf (hrow.fd.bel hA))
  clear hrow hb2 hA HK k0 k1 k2
  go_upto_region 5 with fail
  generalize W2.alloc (.cells #[.int .i64 (W : Int), .int .i64 (H : Int), .slice (some ⟨qf, 0, none⟩) n cf] 25) = Wb at *
  generalize W2.heap.size = b8 at *
  have k0 := ((unhide HK2).vat 2 rfl).cell (m := 0) rfl
  have k1 := ((unhide HK2).vat 2 rfl).cell (m := 1) rfl
  have k2 := ((unhide HK2).vat 2 rfl).cell (m := 2) rfl
  go_wp2_with fail
  refine (unhide HFM _ ((unhide HK2).fat 2 rfl)).mono ?_
  rintro e W3 ⟨⟨qw, cw, rfl, hrow⟩, hb2⟩
  have hA : Below W3.heap.size W3 (W3.alloc (.cells #[.int .i64 (W : Int), .int .i64 (H : Int), .slice (some ⟨qw, 0, none⟩) n cw] 25)) := ba (Below.refl _ _) _
  have HK3 := hide ((((unhide HK2).next hb2).next hA).addv (vb_new W3 25 [.int .i64 (W : Int), .int .i64 (H : Int), .slice (some ⟨qw, 0, none⟩) n cw] _ rfl) |>.addf (hrow.fd.bel hA))
  clear hrow hb2 hA HK2 k0 k1 k2
  go_upto_region 6 with fail
  generalize W3.alloc (.cells #[.int .i64 (W : Int), .int .i64 (H : Int), .slice (some ⟨qw, 0, none⟩) n cw] 25) = Wc at *
  generalize W3.heap.size = b10 at *
  have x1 : ((W : Int) != (W : Int)) = false := by simp
  have x2 : ((H : Int) != (H : Int)) = false := by simp
  have k0 := ((unhide HK3).vat 0 rfl).cell (m := 0) rfl
  have k1 := ((unhide HK3).vat 0 rfl).cell (m := 1) rfl
  have k2 := ((unhide HK3).vat 0 rfl).cell (m := 2) rfl
  have j0 := ((unhide HK3).vat 1 rfl).cell (m := 0) rfl
  have j1 := ((unhide HK3).vat 1 rfl).cell (m := 1) rfl
  have j2 := ((unhide HK3).vat 1 rfl).cell (m := 2) rfl
  have l0 := ((unhide HK3).vat 3 rfl).cell (m := 0) rfl
  have l1 := ((unhide HK3).vat 3 rfl).cell (m := 1) rfl
  have l2 := ((unhide HK3).vat 3 rfl).cell (m := 2) rfl
  go_wp2_with fail
  refine (unhide HSM qf qw cf cw 0 0 _ _ ((unhide HK3).fat 1 rfl) ((unhide HK3).fat 0 rfl)).mono ?_
  rintro e W4 ⟨rfl, hb2⟩
  have HK4 := hide ((unhide HK3).next hb2)
  clear hb2 HK3 k0 k1 k2 j0 j1 j2 l0 l1 l2
  have j0 := ((unhide HK4).vat 1 rfl).cell (m := 0) rfl
  have j1 := ((unhide HK4).vat 1 rfl).cell (m := 1) rfl
  have j2 := ((unhide HK4).vat 1 rfl).cell (m := 2) rfl
  have l0 := ((unhide HK4).vat 3 rfl).cell (m := 0) rfl
  have l1 := ((unhide HK4).vat 3 rfl).cell (m := 1) rfl
  have l2 := ((unhide HK4).vat 3 rfl).cell (m := 2) rfl
  go_wp2_with fail
  refine (unhide HFP r qf 0 cf _ _ (fl_ok hr3 (unhide HOK).2.1) hr3 ((unhide HK4).fat 1 rfl)).mono ?_
  rintro e W5 ⟨⟨qg, cg, rfl, hrow⟩, hb2⟩
  rw [fl_fl hr3 (unhide HPT)] at hrow
  have hA : Below W5.heap.size W5 (W5.alloc (.cells #[.int .i64 (W : Int), .int .i64 (H : Int), .slice (some ⟨qg, 0, none⟩) n cg] 25)) := ba (Below.refl _ _) _
  have HK5 := hide ((((unhide HK4).next hb2).next hA).addv (vb_new W5 25 [.int .i64 (W : Int), .int .i64 (H : Int), .slice (some ⟨qg, 0, none⟩) n cg] _ rfl) |>.addf (hrow.fd.bel hA))
  clear hrow hb2 hA HK4 j0 j1 j2 l0 l1 l2
  go_upto_region 9 with fail
  generalize W5.alloc (.cells #[.int .i64 (W : Int), .int .i64 (H : Int), .slice (some ⟨qg, 0, none⟩) n cg] 25) = Wd at *
  generalize W5.heap.size = b12 at *
  have k0 := ((unhide HK5).vat 4 rfl).cell (m := 0) rfl
  have k1 := ((unhide HK5).vat 4 rfl).cell (m := 1) rfl
  have k2 := ((unhide HK5).vat 4 rfl).cell (m := 2) rfl
  go_wp2_with fail
  refine (unhide HFP 0 g po c P _ (unhide HOK).2.1 (by omega) ((unhide HK5).fat 4 rfl)).mono ?_
  rintro e W6 ⟨⟨qs, cq, rfl, hrow⟩, hb2⟩
  rw [fl_zero (by rw [(((unhide HK5).fat 4 rfl)).len]; exact (unhide HJK).2.2.2.2.2) (unhide HPT)] at hrow
  have hA : Below W6.heap.size W6 (W6.alloc (.cells #[.int .i64 (W : Int), .int .i64 (H : Int), .slice (some ⟨qs, 0, none⟩) n cq] 25)) := ba (Below.refl _ _) _
  have HK6 := hide ((((unhide HK5).next hb2).next hA).addv (vb_new W6 25 [.int .i64 (W : Int), .int .i64 (H : Int), .slice (some ⟨qs, 0, none⟩) n cq] _ rfl) |>.addf (hrow.fd.bel hA))
  clear hrow hb2 hA HK5 k0 k1 k2
  go_upto_region 10 with fail
  generalize W6.alloc (.cells #[.int .i64 (W : Int), .int .i64 (H : Int), .slice (some ⟨qs, 0, none⟩) n cq] 25) = We at *
  generalize W6.heap.size = b14 at *
  have k0 := ((unhide HK6).vat 1 rfl).cell (m := 0) rfl
  have k1 := ((unhide HK6).vat 1 rfl).cell (m := 1) rfl
  have k2 := ((unhide HK6).vat 1 rfl).cell (m := 2) rfl
  have j0 := ((unhide HK6).vat 3 rfl).cell (m := 0) rfl
  have j1 := ((unhide HK6).vat 3 rfl).cell (m := 1) rfl
  have j2 := ((unhide HK6).vat 3 rfl).cell (m := 2) rfl
  go_wp2_with fail
  refine (unhide HSM qg qf cg cf 0 0 _ _ ((unhide HK6).fat 1 rfl) ((unhide HK6).fat 3 rfl)).mono ?_
  rintro e W7 ⟨rfl, hb2⟩
  have HK7 := hide ((unhide HK6).next hb2)
  clear hb2 HK6 k0 k1 k2 j0 j1 j2
  have k0 := ((unhide HK7).vat 0 rfl).cell (m := 0) rfl
  have k1 := ((unhide HK7).vat 0 rfl).cell (m := 1) rfl
  have k2 := ((unhide HK7).vat 0 rfl).cell (m := 2) rfl
  have j0 := ((unhide HK7).vat 5 rfl).cell (m := 0) rfl
  have j1 := ((unhide HK7).vat 5 rfl).cell (m := 1) rfl
  have j2 := ((unhide HK7).vat 5 rfl).cell (m := 2) rfl
  go_wp2_with fail
  refine (unhide HSM qs g cq c 0 po _ _ ((unhide HK7).fat 0 rfl) ((unhide HK7).fat 5 rfl)).mono ?_
  rintro e W8 ⟨rfl, hb2⟩
  have HK8 := hide ((unhide HK7).next hb2)
  clear hb2 HK7 k0 k1 k2 j0 j1 j2
  go_wp2_with fail
  have HK8' := hide (unhide HK8)
  clear HK8
  go_loopw [16] (fun zz X => ∃ i : Nat, zz = .int .i64 (i : Int) ∧ i ≤ n ∧ Keep w [(b14, 25, [.int .i64 (W : Int), .int .i64 (H : Int), .slice (some ⟨qs, 0, none⟩) n cq]), (b12, 25, [.int .i64 (W : Int), .int .i64 (H : Int), .slice (some ⟨qg, 0, none⟩) n cg]), (b10, 25, [.int .i64 (W : Int), .int .i64 (H : Int), .slice (some ⟨qw, 0, none⟩) n cw]), (b8, 25, [.int .i64 (W : Int), .int .i64 (H : Int), .slice (some ⟨qf, 0, none⟩) n cf]), (b5, 25, [.int .i64 (W : Int), .int .i64 (H : Int), .slice (some ⟨gs, pos, none⟩) n cs]), (b5 + 1, 25, [.int .i64 (W : Int), .int .i64 (H : Int), .slice (some ⟨g, po, none⟩) n c])] [(qs, 0, n, cq, P), (qg, 0, n, cg, flL W H r P), (qw, 0, n, cw, flL W H r P), (qf, 0, n, cf, flL W H r P), (gs, pos, n, cs, S), (g, po, n, c, P)] X) (fun zz _ => n - (intOf zz).toNat)
  case atStart => exact ⟨0, rfl, Nat.zero_le _, unhide HK8'⟩
  case round =>
    obtain ⟨i, rfl, hii, hz⟩ := hrel
    have HZ := hide hz
    clear hz HK8'
    have k0 := ((unhide HZ).vat 3 rfl).cell (m := 0) rfl
    have k1 := ((unhide HZ).vat 3 rfl).cell (m := 1) rfl
    have k2 := ((unhide HZ).vat 3 rfl).cell (m := 2) rfl
    have j0 := ((unhide HZ).vat 5 rfl).cell (m := 0) rfl
    have j1 := ((unhide HZ).vat 5 rfl).cell (m := 1) rfl
    have j2 := ((unhide HZ).vat 5 rfl).cell (m := 2) rfl
    by_cases hc : i < n
    · have lz := decide_eq_true (show (i : Int) < (n : Int) by omega)
      have i1 : (i : Int) < (n : Int) := by omega
      have i0 : (0 : Int) ≤ (i : Int) := Int.natCast_nonneg _
      have cf1 := ((unhide HZ).fat 3 rfl).ints _ _ (tp_at (T := flL W H r P) (i := i) (by rw [((unhide HZ).fat 3 rfl).len]; exact hc))
      have cf2 := ((unhide HZ).fat 5 rfl).ints _ _ (tp_at (T := P) (i := i) (by rw [((unhide HZ).fat 5 rfl).len]; exact hc))
      rw [Nat.zero_add] at cf1
      have hge := (unhide HGE) i hc
      obtain ⟨xf, hxf⟩ : ∃ xf, tp (flL W H r P) i = xf := ⟨_, rfl⟩
      obtain ⟨xp, hxp⟩ : ∃ xp, tp P i = xp := ⟨_, rfl⟩
      rw [hxf] at cf1 hge
      rw [hxp] at cf2 hge
      have tz : decide (xf < xp) = false := decide_eq_false (by omega)
      have HXF := hide hxf
      have HXP := hide hxp
      clear hxf hxp
      go_wp2_with fail
      go_quiet (fail)
      go_wp2_with fail
      go_roundw
      case rel => exact ⟨i + 1, by simp, hc, (unhide HZ).next (by repeat (first | exact Below.refl _ _ | refine bel_dn' ?_ _ | refine Below.drew ?_))⟩
      case measure => simp only [intOf]; omega
    · have lz : decide ((i : Int) < (n : Int)) = false := decide_eq_false (by omega)

      have HV5 := hide ((unhide HZ).vat 4 rfl)
      have HV6 := hide ((unhide HZ).vat 5 rfl)
      go_wp2_with fail
      clear k0 k1 k2 j0 j1 j2 lz hii hc
      refine Go.Code.wp_mono (Only.to (fun _ _ h => h)) (ff17 (Rf := fun T => ∀ k, k < n → min (tp (flL W H r P) k) (tp S k) ≤ tp T k) HV5 HV6
        (hide fun X hX => (movesOf_any W H n cs (some ⟨gs, pos, none⟩) a2 len2 cap2 zs2 X (unhide HJK).1 (unhide HJK).2.1 (unhide HJK).2.2.1 (unhide HJK).2.2.2.1 (fun X' hX' => (unhide HC2) X' (bc (bc (unhide HZ).bel hX) hX')) (by omega)).mono (fun _ _ h => by
          obtain ⟨⟨q, cq', ms, m, e1, _, _, _, e5, e6, _, e8⟩, hb⟩ := h
          exact ⟨⟨q, cq', ms, m, e1, e5, e6, e8⟩, hb⟩))
        (hide fun qm m cm ms X hX h1 h2 h3 => (mlM_good W H r gs pos cs g po c n S P (some ⟨qm, 0, none⟩) qm 0 m cm ms X (unhide HJK).1 (unhide HJK).2.1 (unhide HJK).2.2.1 (unhide HJK).2.2.2.1 hr3 (unhide HJK).2.2.2.2.2 (((unhide HZ).next hX).fat 4 rfl) (((unhide HZ).next hX).fat 5 rfl) (unhide HOK).1.tops_tp (unhide HPT) (unhide HST) h2 (by omega) h1).mono (fun _ _ h => by
          obtain ⟨⟨i', q, cp', hi', rfl, hro⟩, hb⟩ := h
          refine ⟨⟨_, _, q, cp', _, _, _, _, rfl, hro, fun k hk => ?_⟩, hb⟩
          exact mlK_low (P := P) (F := fun i => min (tp (flL W H r P) i) (tp S i)) hr3 (unhide HJK).1 (unhide HJK).2.1 (unhide HJK).2.2.1 (unhide HJK).2.2.2.1 (unhide HJK).2.2.2.2.2 (((unhide HZ).next hX).fat 4 rfl).len (unhide HOK).1.tops_tp (fl_bnd hr3) (fun i => by show min _ _ ≤ _; omega) i' hi'.go k))
        (fun y124 y125 y126 y127 y128 y129 y130 E bd ql cl cu ai de T M W9 hb9 hro9 hrf9 hM9 hv9 => ?_))
      have HK9 : Hid (Keep w ((M, 31, [.int .i64 E, .int .i64 bd, .int .i64 (W : Int), .int .i64 (H : Int), .slice (some ⟨ql, 0, none⟩) n cl, .int .i64 cu, .int .i64 ai, .int .i64 de]) :: [(b14, 25, [.int .i64 (W : Int), .int .i64 (H : Int), .slice (some ⟨qs, 0, none⟩) n cq]), (b12, 25, [.int .i64 (W : Int), .int .i64 (H : Int), .slice (some ⟨qg, 0, none⟩) n cg]), (b10, 25, [.int .i64 (W : Int), .int .i64 (H : Int), .slice (some ⟨qw, 0, none⟩) n cw]), (b8, 25, [.int .i64 (W : Int), .int .i64 (H : Int), .slice (some ⟨qf, 0, none⟩) n cf]), (b5, 25, [.int .i64 (W : Int), .int .i64 (H : Int), .slice (some ⟨gs, pos, none⟩) n cs]), (b5 + 1, 25, [.int .i64 (W : Int), .int .i64 (H : Int), .slice (some ⟨g, po, none⟩) n c])]) ((ql, 0, n, cl, T) :: [(qs, 0, n, cq, P), (qg, 0, n, cg, flL W H r P), (qw, 0, n, cw, flL W H r P), (qf, 0, n, cf, flL W H r P), (gs, pos, n, cs, S), (g, po, n, c, P)]) W9) := hide ((((unhide HZ).next hb9).addv hv9).addf hro9.fd)
      have HRF := hide hrf9
      clear hb9 hro9 hrf9 hM9 hv9 HZ HV5 HV6
      go_wp2_with fail
      go_loopw [18] (fun zz X => ∃ i : Nat, zz = .int .i64 (i : Int) ∧ i ≤ n ∧ Keep w ((M, 31, [.int .i64 E, .int .i64 bd, .int .i64 (W : Int), .int .i64 (H : Int), .slice (some ⟨ql, 0, none⟩) n cl, .int .i64 cu, .int .i64 ai, .int .i64 de]) :: [(b14, 25, [.int .i64 (W : Int), .int .i64 (H : Int), .slice (some ⟨qs, 0, none⟩) n cq]), (b12, 25, [.int .i64 (W : Int), .int .i64 (H : Int), .slice (some ⟨qg, 0, none⟩) n cg]), (b10, 25, [.int .i64 (W : Int), .int .i64 (H : Int), .slice (some ⟨qw, 0, none⟩) n cw]), (b8, 25, [.int .i64 (W : Int), .int .i64 (H : Int), .slice (some ⟨qf, 0, none⟩) n cf]), (b5, 25, [.int .i64 (W : Int), .int .i64 (H : Int), .slice (some ⟨gs, pos, none⟩) n cs]), (b5 + 1, 25, [.int .i64 (W : Int), .int .i64 (H : Int), .slice (some ⟨g, po, none⟩) n c])]) ((ql, 0, n, cl, T) :: [(qs, 0, n, cq, P), (qg, 0, n, cg, flL W H r P), (qw, 0, n, cw, flL W H r P), (qf, 0, n, cf, flL W H r P), (gs, pos, n, cs, S), (g, po, n, c, P)]) X) (fun zz _ => n - (intOf zz).toNat)
      case atStart => exact ⟨0, rfl, Nat.zero_le _, unhide HK9⟩
      case round =>
        obtain ⟨i, rfl, hii, hz⟩ := hrel
        have HZ := hide hz
        clear hz HK9
        have k4 := ((unhide HZ).vat 0 rfl).cell (m := 4) rfl
        have j2 := ((unhide HZ).vat 4 rfl).cell (m := 2) rfl
        have l2 := ((unhide HZ).vat 5 rfl).cell (m := 2) rfl
        by_cases hc : i < n
        · have lz := decide_eq_true (show (i : Int) < (n : Int) by omega)
          have i1 : (i : Int) < (n : Int) := by omega
          have i0 : (0 : Int) ≤ (i : Int) := Int.natCast_nonneg _
          have cf0 := ((unhide HZ).fat 0 rfl).ints _ _ (tp_at (T := T) (i := i) (by rw [((unhide HZ).fat 0 rfl).len]; exact hc))
          have cf1 := ((unhide HZ).fat 4 rfl).ints _ _ (tp_at (T := flL W H r P) (i := i) (by rw [((unhide HZ).fat 4 rfl).len]; exact hc))
          have cf2 := ((unhide HZ).fat 5 rfl).ints _ _ (tp_at (T := S) (i := i) (by rw [((unhide HZ).fat 5 rfl).len]; exact hc))
          rw [Nat.zero_add] at cf0 cf1
          have hge := (unhide HRF) i hc
          obtain ⟨xt, hxt⟩ : ∃ xt, tp T i = xt := ⟨_, rfl⟩
          obtain ⟨xf, hxf⟩ : ∃ xf, tp (flL W H r P) i = xf := ⟨_, rfl⟩
          obtain ⟨xp, hxp⟩ : ∃ xp, tp S i = xp := ⟨_, rfl⟩
          rw [hxt] at cf0 hge
          rw [hxf] at cf1 hge
          rw [hxp] at cf2 hge
          have tz : decide (xt < min xf xp) = false := decide_eq_false (by omega)
          have HXT := hide hxt
          have HXF := hide hxf
          have HXP := hide hxp
          clear hxf hxp hxt
          go_wp2_with fail
          go_quiet (fail)
          go_wp2_with fail
          go_roundw
          case rel => exact ⟨i + 1, by simp, hc, (unhide HZ).next (by repeat (first | exact Below.refl _ _ | refine bel_dn' ?_ _ | refine Below.drew ?_))⟩
          case measure => simp only [intOf]; omega
        · have lz : decide ((i : Int) < (n : Int)) = false := decide_eq_false (by omega)

          have p0 := ((unhide HZ).vat 4 rfl).cell (m := 0) rfl
          have p1 := ((unhide HZ).vat 4 rfl).cell (m := 1) rfl
          have p2 := ((unhide HZ).vat 4 rfl).cell (m := 2) rfl
          have q0 := ((unhide HZ).vat 6 rfl).cell (m := 0) rfl
          have q1 := ((unhide HZ).vat 6 rfl).cell (m := 1) rfl
          have q2 := ((unhide HZ).vat 6 rfl).cell (m := 2) rfl
          have HRS : Hid (restC W H (flL W H r P) W H P = 0) := hide (by unfold restC; rw [if_pos ⟨fl_ok hr3 (unhide HOK).2.1, (unhide HOK).2.1, rfl, rfl⟩])
          have HR0 : Hid (r = 0 → restS W H (flL W H r P) W H P = 0) := hide (fun h0 => by
            subst h0
            have e1 : flL W H 0 P = P := fl_zero (by rw [((unhide HZ).fat 6 rfl).len]; exact (unhide HJK).2.2.2.2.2) (unhide HPT)
            unfold restS
            rw [e1]
            split
            · exact rsum_zero _
            · rfl)
          go_wp2_with fail
          refine (unhide HRP qf cf _ _ ((unhide HZ).fat 4 rfl) ((unhide HZ).fat 6 rfl)).mono ?_
          rintro e Wf ⟨rfl, hb2⟩
          have HZ2 := hide ((unhide HZ).next hb2)
          clear hb2 HZ k4 j2 l2 p0 p1 p2 q0 q1 q2
          rw [unhide HRS]
          have p0 := ((unhide HZ2).vat 3 rfl).cell (m := 0) rfl
          have p1 := ((unhide HZ2).vat 3 rfl).cell (m := 1) rfl
          have p2 := ((unhide HZ2).vat 3 rfl).cell (m := 2) rfl
          have q0 := ((unhide HZ2).vat 6 rfl).cell (m := 0) rfl
          have q1 := ((unhide HZ2).vat 6 rfl).cell (m := 1) rfl
          have q2 := ((unhide HZ2).vat 6 rfl).cell (m := 2) rfl
          go_wp2_with fail
          refine (unhide HRM qw cw _ _ ((unhide HZ2).fat 3 rfl) ((unhide HZ2).fat 6 rfl)).mono ?_
          rintro e Wg ⟨rfl, hb2⟩
          have HZ3 := hide ((unhide HZ2).next hb2).bel
          clear hb2 HZ2 p0 p1 p2 q0 q1 q2
          rw [unhide HRS]
          obtain ⟨rs, hrs⟩ : ∃ rs, restS W H (flL W H r P) W H P = rs := ⟨_, rfl⟩
          rw [hrs] at HR0 ⊢
          have xx : (rs == rs) = true := by simp
          clear hrs
          by_cases hr0 : r = 0
          · have hz0 := (unhide HR0) hr0
            subst hz0
            subst hr0
            go_wp2_with fail
            go_ret
            exact ⟨rfl, unhide HZ3⟩
          · have hrp : (0 : Int) < (r : Int) := by omega
            have hrd := decide_eq_true hrp
            go_wp2_with fail
            go_ret
            exact ⟨rfl, unhide HZ3⟩
end Go.Proofs.Ytbjljofgpbecbaa
