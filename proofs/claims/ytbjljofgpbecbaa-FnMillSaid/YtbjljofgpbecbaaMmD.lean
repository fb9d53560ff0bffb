/-
  The law of milling, for a job that is right.
-/
import Derived.Test.YtbjljofgpbecbaaMmA
import Derived.Test.YtbjljofgpbecbaaMmB
import Derived.Test.YtbjljofgpbecbaaAtD
import Derived.Test.YtbjljofgpbecbaaMilM
import Derived.Test.YtbjljofgpbecbaaMilP
namespace Go.Proofs.Ytbjljofgpbecbaa
open Go.ChangeShapes Go.WideShapes Go.ChangeAt Go.RowKit
set_option linter.unusedVariables false
set_option linter.unusedSimpArgs false

/-- a beginning of moves that can be, milled by the program -/
theorem mlP_upto (W H r gs pos cs g po c n : Nat) (S P : List Int) (qm k cm : Nat) (ms : List Mve) (w : World)
    (hW1 : 1 ≤ W) (hW : W ≤ 24) (hH1 : 1 ≤ H) (hH : H ≤ 24) (hr : r ≤ 3) (hn : n = W * H) (hS : Fd w gs pos n cs S) (hP : Fd w g po n c P)
    (hSt : ∀ i, 0 ≤ tp S i ∧ tp S i ≤ 24) (hPt : ∀ i, 0 ≤ tp P i ∧ tp P i ≤ 24) (hst : stB W H S W H P = true) (hm : ms.length = k) (hm2 : k ≤ 2000) (hmv : Mvs w (some ⟨qm, 0, none⟩) qm 0 ms) (hg : mlGo P W H r S ms k) :
    Calls Try.prog 11 #[.agg #[.int .i64 (W : Int), .int .i64 (H : Int), .slice (some ⟨gs, pos, none⟩) n cs], .agg #[.int .i64 (W : Int), .int .i64 (H : Int), .slice (some ⟨g, po, none⟩) n c], .int .i64 (r : Int), .slice (some ⟨qm, 0, none⟩) k cm] w fun e w' => (∃ q cap, e = .returned (.agg #[.int .i64 0, .int .i64 0, .int .i64 (W : Int), .int .i64 (H : Int), .slice (some ⟨q, 0, none⟩) n cap, .int .i64 (mlK P W H r S ms k).2.cut, .int .i64 (mlK P W H r S ms k).2.air, .int .i64 (mlK P W H r S ms k).2.dep]) ∧ Row w' w.heap.size 3 1 (.slice (some ⟨q, 0, none⟩) n cap) n (mlK P W H r S ms k).2.T) ∧ Below w.heap.size w w' := by
  refine (mlP_good W H r gs pos cs g po c n S P (some ⟨qm, 0, none⟩) qm 0 k cm ms w hW1 hW hH1 hH hr hn hS hP hSt hPt hst hm hm2 hmv).mono ?_
  rintro e w' ⟨⟨i, q, cap, hi, rfl, hro⟩, hb⟩
  obtain rfl : i = k := hi.uniq ⟨by omega, hg, fun h => by omega⟩
  have e1 : mlC P W H r S ms i = 0 := by rw [← hm]; exact mlC_end
  have e2 : mlB ms i = 0 := by rw [← hm]; exact mlB_end
  refine ⟨⟨q, cap, ?_, hro⟩, hb⟩
  rw [e1, e2]
  rfl
theorem own_some {w : World} {B t k n c : Nat} {u : Option Addr} {L : List Value} (h : w.ownsRow B t k (.slice u n c) n L) (hn : n ≠ 0) : u ≠ none := by
  rcases h.2 with ⟨h1, h2⟩ | ⟨q, cap, cur, hv, _⟩
  · exact absurd h2 hn
  · intro e
    rw [e] at hv
    cases hv
theorem Mvs.take {X : World} {q k : Nat} {ms : List Mve} (h : Mvs X (some ⟨q, 0, none⟩) q 0 ms) : Mvs X (some ⟨q, 0, none⟩) q 0 (ms.take k) := by
  intro h0
  have hne : ms ≠ [] := fun e => h0 (by rw [e]; simp)
  obtain ⟨h1, h2, h3⟩ := h hne
  refine ⟨h1, h2, fun i l hi => h3 i l ?_⟩
  rw [List.getElem?_take] at hi
  split at hi
  · exact hi
  · cases hi
set_option maxHeartbeats 8000000 in
set_option maxRecDepth 100000 in
theorem fnMill_core (a a2 : Option Addr) (len cap len2 cap2 : Nat) (zs zs2 : List Int) (w : World) (hl : len ≤ 1048576) (hl2 : len2 ≤ 1048576) (hc : Code w.heap.size w a len cap zs) (hc2 : Code w.heap.size w a2 len2 cap2 zs2) :
    Calls Try.prog 3 #[.slice a len cap, .slice a2 len2 cap2] w fun e w' => e = .returned (.bool true) ∧ Below w.heap.size w w' := by
  have HJ := hide (jobOf_any a len cap zs w hc (by omega))
  have HC2 := hide (fun X (hX : Below w.heap.size w X) => codeUp hc2 hX)
  have HAT := hide (fun (nn : Int) (X : World) (hX : Below w.heap.size w X) (hn : 1 ≤ nn ∧ nn ≤ 1000) => at_any a2 len2 cap2 X.heap.size zs2 1 nn X (codeUp hc2 hX) hl2 (by omega) hn)
  have t1 : decide ((1048576 : Int) < (len : Int)) = false := decide_eq_false (by omega)
  have t2 : decide ((1048576 : Int) < (len2 : Int)) = false := decide_eq_false (by omega)
  clear hc hc2
  go_enter Try.func3, Try.ntmps3
  go_wp2_with fail
  refine (unhide HJ).mono ?_
  rintro e W1 ⟨⟨W, H, r, gs, pos, cs, g, po, c, n, S, P, rfl, hj⟩, hb1⟩
  have HJK : Hid (1 ≤ W ∧ W ≤ 24 ∧ 1 ≤ H ∧ H ≤ 24 ∧ r ≤ 3 ∧ n = W * H) := hide ⟨hj.W1, hj.W2, hj.H1, hj.H2, hj.r3, hj.n_⟩
  have HOK := hide hj.oks
  have HST := hide hj.st
  have HSL := hide hj.fs.len
  have hA : Below W1.heap.size W1 ((W1.alloc (.cells #[.int .i64 (W : Int), .int .i64 (H : Int), .slice (some ⟨gs, pos, none⟩) n cs] 25)).alloc (.cells #[.int .i64 (W : Int), .int .i64 (H : Int), .slice (some ⟨g, po, none⟩) n c] 25)) := ba (ba (Below.refl _ _) _) _
  have HK : Hid (Keep w [(W1.heap.size, 25, [.int .i64 (W : Int), .int .i64 (H : Int), .slice (some ⟨gs, pos, none⟩) n cs]), (W1.heap.size + 1, 25, [.int .i64 (W : Int), .int .i64 (H : Int), .slice (some ⟨g, po, none⟩) n c])] [(gs, pos, n, cs, S), (g, po, n, c, P)] ((W1.alloc (.cells #[.int .i64 (W : Int), .int .i64 (H : Int), .slice (some ⟨gs, pos, none⟩) n cs] 25)).alloc (.cells #[.int .i64 (W : Int), .int .i64 (H : Int), .slice (some ⟨g, po, none⟩) n c] 25))) := hide
    ((((⟨bc hb1 hA, (fun _ h => nomatch h), (fun _ h => nomatch h)⟩ : Keep w [] [] ((W1.alloc (.cells #[.int .i64 (W : Int), .int .i64 (H : Int), .slice (some ⟨gs, pos, none⟩) n cs] 25)).alloc (.cells #[.int .i64 (W : Int), .int .i64 (H : Int), .slice (some ⟨g, po, none⟩) n c] 25))).addv (vb_new2 W1 25 [.int .i64 (W : Int), .int .i64 (H : Int), .slice (some ⟨g, po, none⟩) n c] (.cells #[.int .i64 (W : Int), .int .i64 (H : Int), .slice (some ⟨gs, pos, none⟩) n cs] 25))).addv (vb_new1 W1 25 [.int .i64 (W : Int), .int .i64 (H : Int), .slice (some ⟨gs, pos, none⟩) n cs] (.cells #[.int .i64 (W : Int), .int .i64 (H : Int), .slice (some ⟨g, po, none⟩) n c] 25))).addf (hj.fp.bel hA) |>.addf (hj.fs.bel hA))
  have hr3 := hj.r3
  have hnb : n ≤ 576 := by rw [hj.n_]; exact Nat.mul_le_mul hj.W2 hj.H2
  have hn1 : 1 ≤ n := by rw [hj.n_]; exact Nat.mul_pos hj.W1 hj.H1
  clear hj hb1 hA HJ
  have HPT : Hid (∀ i, 0 ≤ tp P i ∧ tp P i ≤ 24) := hide (unhide HOK).2.1.tops_tp
  have HSTT : Hid (∀ i, 0 ≤ tp S i ∧ tp S i ≤ 24) := hide (unhide HOK).1.tops_tp
  have HSM := hide (fun (q q' c1 c2 p1 p2 : Nat) (L : List Int) (X : World) (h1 : Fd X q p1 n c1 L) (h2 : Fd X q' p2 n c2 L) => sm_same (some ⟨q, p1, none⟩) (some ⟨q', p2, none⟩) q p1 q' p2 n c1 c2 L X h1.len (by omega) h1.its h2.its)
  go_upto_region 4 with fail
  generalize (W1.alloc (.cells #[.int .i64 (W : Int), .int .i64 (H : Int), .slice (some ⟨gs, pos, none⟩) n cs] 25)).alloc (.cells #[.int .i64 (W : Int), .int .i64 (H : Int), .slice (some ⟨g, po, none⟩) n c] 25) = Wa at *
  generalize W1.heap.size = b5 at *
  have k0 := ((unhide HK).vat 0 rfl).cell (m := 0) rfl
  have k1 := ((unhide HK).vat 0 rfl).cell (m := 1) rfl
  have k2 := ((unhide HK).vat 0 rfl).cell (m := 2) rfl
  go_wp2_with fail
  refine (movesOf_any W H n cs (some ⟨gs, pos, none⟩) a2 len2 cap2 zs2 Wa (unhide HJK).1 (unhide HJK).2.1 (unhide HJK).2.2.1 (unhide HJK).2.2.2.1 (fun X' hX' => (unhide HC2) X' (bc (unhide HK).bel hX')) (by omega)).mono ?_
  rintro e W2 ⟨⟨qm, cm, ms, m, rfl, hqm, hmc, hcm, hmv, hml, hm2, hm100⟩, hb2⟩
  have HK2 := hide ((unhide HK).next hb2)
  have HMV : Hid (∀ X, Below W2.heap.size W2 X → Mvs X (some ⟨qm, 0, none⟩) qm 0 ms) := hide (fun X hX => hmv.bel hX)
  have HML := hide hml
  have hqlt : qm < W2.heap.size := (hmv (by intro e; rw [e] at hml; simp at hml; omega)).2.1
  have HR2 : Hid (Below W2.heap.size W2 W2) := hide (Below.refl _ _)
  clear hmv hml hb2 HK k0 k1 k2
  have k0 := ((unhide HK2).vat 0 rfl).cell (m := 0) rfl
  have k1 := ((unhide HK2).vat 0 rfl).cell (m := 1) rfl
  have k2 := ((unhide HK2).vat 0 rfl).cell (m := 2) rfl
  have j0 := ((unhide HK2).vat 1 rfl).cell (m := 0) rfl
  have j1 := ((unhide HK2).vat 1 rfl).cell (m := 1) rfl
  have j2 := ((unhide HK2).vat 1 rfl).cell (m := 2) rfl
  go_wp2_with fail
  refine (mlP_good W H r gs pos cs g po c n S P (some ⟨qm, 0, none⟩) qm 0 m cm ms _ (unhide HJK).1 (unhide HJK).2.1 (unhide HJK).2.2.1 (unhide HJK).2.2.2.1 hr3 (unhide HJK).2.2.2.2.2 ((unhide HK2).fat 0 rfl) ((unhide HK2).fat 1 rfl) (unhide HSTT) (unhide HPT) (unhide HST) (unhide HML) (by omega) ((unhide HMV) _ (unhide HR2))).mono ?_
  rintro e W3 ⟨⟨i0, q9, c9, hi0, rfl, hro⟩, hb3⟩
  have HI0 := hide hi0
  have hi0m : i0 ≤ m := by have := hi0.le; rw [unhide HML] at this; exact this
  obtain ⟨E, hE⟩ : ∃ E, mlC P W H r S ms i0 = E := ⟨_, rfl⟩
  obtain ⟨bd, hbd⟩ : ∃ bd, mlB ms i0 = bd := ⟨_, rfl⟩
  obtain ⟨s0, hs0⟩ : ∃ s0, (mlK P W H r S ms i0).2 = s0 := ⟨_, rfl⟩
  have HE := hide hE
  have HBD := hide hbd
  have HS0 := hide hs0
  rw [hs0] at hro
  rw [hE, hbd, hs0]
  have hA : Below W3.heap.size W3 (W3.alloc (.cells #[.int .i64 E, .int .i64 bd, .int .i64 (W : Int), .int .i64 (H : Int), .slice (some ⟨q9, 0, none⟩) n c9, .int .i64 s0.cut, .int .i64 s0.air, .int .i64 s0.dep] 31)) := ba (Below.refl _ _) _
  have HK3 := hide ((((unhide HK2).next hb3).next hA).addv (vb_new W3 31 [.int .i64 E, .int .i64 bd, .int .i64 (W : Int), .int .i64 (H : Int), .slice (some ⟨q9, 0, none⟩) n c9, .int .i64 s0.cut, .int .i64 s0.air, .int .i64 s0.dep] _ rfl) |>.addf (hro.fd.bel hA))
  have HR3 := hide (bc (bc (unhide HR2) hb3) hA)
  unfold pnV
  clear hi0 hE hbd hs0 hro hb3 hA HK2 k0 k1 k2 j0 j1 j2
  go_upto_region 6 with fail
  generalize W3.alloc (.cells #[.int .i64 E, .int .i64 bd, .int .i64 (W : Int), .int .i64 (H : Int), .slice (some ⟨q9, 0, none⟩) n c9, .int .i64 s0.cut, .int .i64 s0.air, .int .i64 s0.dep] 31) = Wb at *
  generalize W3.heap.size = b9 at *
  have k0 := ((unhide HK3).vat 1 rfl).cell (m := 0) rfl
  have k1 := ((unhide HK3).vat 1 rfl).cell (m := 1) rfl
  have k2 := ((unhide HK3).vat 1 rfl).cell (m := 2) rfl
  have j0 := ((unhide HK3).vat 2 rfl).cell (m := 0) rfl
  have j1 := ((unhide HK3).vat 2 rfl).cell (m := 1) rfl
  have j2 := ((unhide HK3).vat 2 rfl).cell (m := 2) rfl
  go_wp2_with fail
  refine (mlM_good W H r gs pos cs g po c n S P (some ⟨qm, 0, none⟩) qm 0 m cm ms _ (unhide HJK).1 (unhide HJK).2.1 (unhide HJK).2.2.1 (unhide HJK).2.2.2.1 hr3 (unhide HJK).2.2.2.2.2 ((unhide HK3).fat 1 rfl) ((unhide HK3).fat 2 rfl) (unhide HSTT) (unhide HPT) (unhide HST) (unhide HML) (by omega) ((unhide HMV) _ (unhide HR3))).mono ?_
  rintro e W4 ⟨⟨i1, q10, c10, hi1, rfl, hro⟩, hb3⟩
  obtain rfl := hi1.uniq (unhide HI0)
  rw [unhide HS0] at hro
  rw [unhide HE, unhide HBD, unhide HS0]
  have hA : Below W4.heap.size W4 (W4.alloc (.cells #[.int .i64 E, .int .i64 bd, .int .i64 (W : Int), .int .i64 (H : Int), .slice (some ⟨q10, 0, none⟩) n c10, .int .i64 s0.cut, .int .i64 s0.air, .int .i64 s0.dep] 31)) := ba (Below.refl _ _) _
  have HK4 := hide ((((unhide HK3).next hb3).next hA).addv (vb_new W4 31 [.int .i64 E, .int .i64 bd, .int .i64 (W : Int), .int .i64 (H : Int), .slice (some ⟨q10, 0, none⟩) n c10, .int .i64 s0.cut, .int .i64 s0.air, .int .i64 s0.dep] _ rfl) |>.addf (hro.fd.bel hA))
  have HR4 := hide (bc (bc (unhide HR3) hb3) hA)
  unfold pnV
  clear hi1 hro hb3 hA HK3 k0 k1 k2 j0 j1 j2
  go_upto_region 7 with fail
  generalize W4.alloc (.cells #[.int .i64 E, .int .i64 bd, .int .i64 (W : Int), .int .i64 (H : Int), .slice (some ⟨q10, 0, none⟩) n c10, .int .i64 s0.cut, .int .i64 s0.air, .int .i64 s0.dep] 31) = Wc at *
  generalize W4.heap.size = b10 at *
  have x1 : (E != E) = false := by simp
  have x2 : (bd != bd) = false := by simp
  have x3 : (s0.cut != s0.cut) = false := by simp
  have k0 := ((unhide HK4).vat 1 rfl).cell (m := 0) rfl
  have k1 := ((unhide HK4).vat 1 rfl).cell (m := 1) rfl
  have k2 := ((unhide HK4).vat 1 rfl).cell (m := 2) rfl
  have k3 := ((unhide HK4).vat 1 rfl).cell (m := 3) rfl
  have k4 := ((unhide HK4).vat 1 rfl).cell (m := 4) rfl
  have k5 := ((unhide HK4).vat 1 rfl).cell (m := 5) rfl
  have k6 := ((unhide HK4).vat 1 rfl).cell (m := 6) rfl
  have k7 := ((unhide HK4).vat 1 rfl).cell (m := 7) rfl
  have j0 := ((unhide HK4).vat 0 rfl).cell (m := 0) rfl
  have j1 := ((unhide HK4).vat 0 rfl).cell (m := 1) rfl
  have j2 := ((unhide HK4).vat 0 rfl).cell (m := 2) rfl
  have j3 := ((unhide HK4).vat 0 rfl).cell (m := 3) rfl
  have j4 := ((unhide HK4).vat 0 rfl).cell (m := 4) rfl
  have j5 := ((unhide HK4).vat 0 rfl).cell (m := 5) rfl
  have j6 := ((unhide HK4).vat 0 rfl).cell (m := 6) rfl
  have j7 := ((unhide HK4).vat 0 rfl).cell (m := 7) rfl
  go_wp2_with fail
  refine (unhide HSM q9 q10 c9 c10 0 0 _ _ ((unhide HK4).fat 1 rfl) ((unhide HK4).fat 0 rfl)).mono ?_
  rintro e W5 ⟨rfl, hb3⟩
  have HK5 := hide ((unhide HK4).next hb3)
  have HR5 := hide (bc (unhide HR4) hb3)
  clear hb3 HK4 k0 k1 k2 k3 k4 k5 k6 k7 j0 j1 j2 j3 j4 j5 j6 j7
  have j0 := ((unhide HK5).vat 0 rfl).cell (m := 0) rfl
  have j1 := ((unhide HK5).vat 0 rfl).cell (m := 1) rfl
  have HBE : Hid (E ≠ 0 → bd = (i1 : Int)) := hide (fun hz => by
    have hlt : i1 < ms.length := by
      rcases Nat.lt_or_ge i1 ms.length with h | h
      · exact h
      · exfalso
        apply hz
        rw [← unhide HE, show i1 = ms.length by have := (unhide HI0).le; omega]
        exact mlC_end
    rw [← unhide HBD]
    exact mlB_in hlt)
  have HBZ : Hid (E = 0 → (m : Int) = (i1 : Int)) := hide (fun hz => by
    rcases Nat.lt_or_ge i1 ms.length with h | h
    · exact absurd ((unhide HE).trans hz) ((unhide HI0).no h)
    · have := unhide HML
      omega)
  go_upto_if 80 with fail
  go_cut [11] (fun s11 wx => s11 = .int .i64 (i1 : Int) ∧ Below W5.heap.size W5 wx)
  case first =>
    by_cases hz : E = 0
    · have hzb : (E != 0) = false := by simpa using hz
      have hmi := (unhide HBZ) hz
      go_wp2_with fail
      go_meet
      case rel => exact ⟨by rw [← hmi], Below.refl _ _⟩
    · have hzb : (E != 0) = true := by simpa using hz
      have hmi := (unhide HBE) hz
      go_wp2_with fail
      go_meet
      case rel => exact ⟨by rw [← hmi], Below.refl _ _⟩
  case rest =>
  obtain ⟨rfl, hw⟩ := hcut
  have HK6 := hide ((unhide HK5).next hw)
  have HR6 := hide (bc (unhide HR5) hw)
  clear hw HK5 j0 j1 x1 x2 x3 HBE HBZ
  have wi : IntKind.i64.wrap ((i1 : Int) + 1) = (i1 : Int) + 1 := wrap_i (by omega) (by omega)
  go_wp2_with fail
  refine (unhide HAT ((i1 : Int) + 1) _ (unhide HK6).bel (by omega)).mono ?_
  rintro e W7 ⟨kr, rfl, kr0, kr1, hb3⟩
  obtain ⟨kk, rfl⟩ := Int.eq_ofNat_of_zero_le kr0
  have hkk : kk ≤ i1 := by omega
  have HK7 := hide ((unhide HK6).next hb3)
  have HR7 := hide (bc (unhide HR6) hb3)
  clear hb3 HK6 kr0 kr1
  have HV5 := hide ((unhide HK7).vat 2 rfl)
  have HV6 := hide ((unhide HK7).vat 3 rfl)
  obtain ⟨sa, hsa⟩ : ∃ sa, (mlK P W H r S ms kk).2 = sa := ⟨_, rfl⟩
  have HSA := hide hsa
  go_wp2_with fail
  refine Go.Code.wp_mono (Only.to (fun _ _ h => h)) (mm13 (s := sa) (by omega) hmc hcm HV5 HV6
    (hide fun X hX => (mlP_upto W H r gs pos cs g po c n S P qm kk cm (ms.take kk) X (unhide HJK).1 (unhide HJK).2.1 (unhide HJK).2.2.1 (unhide HJK).2.2.2.1 hr3 (unhide HJK).2.2.2.2.2 (((unhide HK7).next hX).fat 2 rfl) (((unhide HK7).next hX).fat 3 rfl) (unhide HSTT) (unhide HPT) (unhide HST) (by have := unhide HML; simp; omega) (by omega) ((unhide HMV) X (bc (unhide HR7) hX)).take (mlEnd_take (by have := unhide HML; omega) (fun j hj => (unhide HI0).go j (by omega))).go).mono (fun _ _ h => by
      rw [mlK_take kk (Nat.le_refl _), hsa] at h
      exact h))
    (fun y87 y88 y89 y90 y91 y92 y93 qa ca b13 W8 hb8 hro8 hM8 hv8 => ?_))
  have HK8 := hide ((((unhide HK7).next hb8).addv hv8).addf hro8.fd)
  have HR8 := hide (bc (unhide HR7) hb8)
  clear hb8 hro8 hM8 hv8 HK7 HV5 HV6 hsa
  have HV5 := hide ((unhide HK8).vat 3 rfl)
  have HV6 := hide ((unhide HK8).vat 4 rfl)
  go_wp2_with fail
  refine Go.Code.wp_mono (Only.to (fun _ _ h => h)) (mm14 (s := s0) (by omega) hmc hcm HV5 HV6
    (hide fun X hX => (mlP_upto W H r gs pos cs g po c n S P qm i1 cm (ms.take i1) X (unhide HJK).1 (unhide HJK).2.1 (unhide HJK).2.2.1 (unhide HJK).2.2.2.1 hr3 (unhide HJK).2.2.2.2.2 (((unhide HK8).next hX).fat 3 rfl) (((unhide HK8).next hX).fat 4 rfl) (unhide HSTT) (unhide HPT) (unhide HST) (by have := unhide HML; simp; omega) (by omega) ((unhide HMV) X (bc (unhide HR8) hX)).take (mlEnd_take (by have := unhide HML; omega) (unhide HI0).go).go).mono (fun _ _ h => by
      rw [mlK_take i1 (Nat.le_refl _), unhide HS0] at h
      exact h))
    (fun y94 y95 y96 y97 y98 y99 y100 qb cb b14 W9 hb9 hro9 hM9 hv9 => ?_))
  have HK9 : Hid (Keep w [(b14, 31, [.int .i64 0, .int .i64 0, .int .i64 (W : Int), .int .i64 (H : Int), .slice (some ⟨qb, 0, none⟩) n cb, .int .i64 s0.cut, .int .i64 s0.air, .int .i64 s0.dep]), (b13, 31, [.int .i64 0, .int .i64 0, .int .i64 (W : Int), .int .i64 (H : Int), .slice (some ⟨qa, 0, none⟩) n ca, .int .i64 sa.cut, .int .i64 sa.air, .int .i64 sa.dep]), (b10, 31, [.int .i64 E, .int .i64 bd, .int .i64 (W : Int), .int .i64 (H : Int), .slice (some ⟨q10, 0, none⟩) n c10, .int .i64 s0.cut, .int .i64 s0.air, .int .i64 s0.dep]), (b9, 31, [.int .i64 E, .int .i64 bd, .int .i64 (W : Int), .int .i64 (H : Int), .slice (some ⟨q9, 0, none⟩) n c9, .int .i64 s0.cut, .int .i64 s0.air, .int .i64 s0.dep]), (b5, 25, [.int .i64 (W : Int), .int .i64 (H : Int), .slice (some ⟨gs, pos, none⟩) n cs]), (b5 + 1, 25, [.int .i64 (W : Int), .int .i64 (H : Int), .slice (some ⟨g, po, none⟩) n c])] [(qb, 0, n, cb, s0.T), (qa, 0, n, ca, sa.T), (q10, 0, n, c10, s0.T), (q9, 0, n, c9, s0.T), (gs, pos, n, cs, S), (g, po, n, c, P)] W9) := hide ((((unhide HK8).next hb9).addv hv9).addf hro9.fd)
  have HR9 := hide (bc (unhide HR8) hb9)
  clear hb9 hro9 hM9 hv9 HK8 HV5 HV6
  have HLE : Hid (Les sa s0) := hide (by
    have := mlK_les (P := P) (ms := ms) hr3 (unhide HJK).1 (unhide HJK).2.1 (unhide HJK).2.2.1 (unhide HJK).2.2.2.1 (unhide HJK).2.2.2.2.2 (unhide HSL) (unhide HSTT) (k := kk) (i1 - kk) (by rw [show kk + (i1 - kk) = i1 by omega]; exact (unhide HI0).go)
    rw [show kk + (i1 - kk) = i1 by omega, unhide HSA, unhide HS0] at this
    exact this)
  have HLA : Hid (Les ⟨S, 0, 0, 0⟩ sa) := hide (by
    have := mlK_les (P := P) (ms := ms) hr3 (unhide HJK).1 (unhide HJK).2.1 (unhide HJK).2.2.1 (unhide HJK).2.2.2.1 (unhide HJK).2.2.2.2.2 (unhide HSL) (unhide HSTT) (k := 0) kk (by rw [Nat.zero_add]; exact fun j hj => (unhide HI0).go j (by omega))
    rw [Nat.zero_add, unhide HSA] at this
    exact this)
  have HLP : Hid (∀ i, tp P i ≤ tp s0.T i) := hide (by
    have := mlK_low (P := P) (ms := ms) (F := fun i => tp P i) hr3 (unhide HJK).1 (unhide HJK).2.1 (unhide HJK).2.2.1 (unhide HJK).2.2.2.1 (unhide HJK).2.2.2.2.2 (unhide HSL) (unhide HSTT) part_bnd (fun i => by
      by_cases hi : i < P.length
      · exact (unhide HOK).2.2 i hi
      · have : tp P i = 0 := by unfold tp; rw [List.getD_eq_getElem?_getD, List.getElem?_eq_none (by omega)]; rfl
        show tp P i ≤ tp S i
        rw [this]
        exact ((unhide HSTT) i).1) i1 (unhide HI0).go
    rw [unhide HS0] at this
    exact this)
  have HTK : Hid (tkn S s0.T n = s0.cut) := hide (by
    rw [tkn_all (unhide HSL) ((unhide HK9).fat 0 rfl).len]
    have h1 := ((unhide HLA).trans (unhide HLE)).sum
    simp only at h1
    omega)
  have HTB : Hid (∀ k : Nat, 0 ≤ tkn S s0.T k ∧ tkn S s0.T k ≤ 24 * (k : Int)) := hide (fun k => tkn_bd (unhide HSTT) (fun i => ⟨Int.le_trans ((unhide HPT) i).1 ((unhide HLP) i), ((unhide HLA).trans (unhide HLE)).top i⟩) k)
  have hcc := (unhide HLE).cut
  have tcc : decide (s0.cut < sa.cut) = false := decide_eq_false (by omega)
  have xn : ((n : Int) != (n : Int)) = false := by simp
  have k0 := ((unhide HK9).vat 0 rfl).cell (m := 0) rfl
  have k1 := ((unhide HK9).vat 0 rfl).cell (m := 1) rfl
  have k2 := ((unhide HK9).vat 0 rfl).cell (m := 2) rfl
  have k3 := ((unhide HK9).vat 0 rfl).cell (m := 3) rfl
  have k4 := ((unhide HK9).vat 0 rfl).cell (m := 4) rfl
  have k5 := ((unhide HK9).vat 0 rfl).cell (m := 5) rfl
  have k6 := ((unhide HK9).vat 0 rfl).cell (m := 6) rfl
  have k7 := ((unhide HK9).vat 0 rfl).cell (m := 7) rfl
  have j0 := ((unhide HK9).vat 1 rfl).cell (m := 0) rfl
  have j1 := ((unhide HK9).vat 1 rfl).cell (m := 1) rfl
  have j2 := ((unhide HK9).vat 1 rfl).cell (m := 2) rfl
  have j3 := ((unhide HK9).vat 1 rfl).cell (m := 3) rfl
  have j4 := ((unhide HK9).vat 1 rfl).cell (m := 4) rfl
  have j5 := ((unhide HK9).vat 1 rfl).cell (m := 5) rfl
  have j6 := ((unhide HK9).vat 1 rfl).cell (m := 6) rfl
  have j7 := ((unhide HK9).vat 1 rfl).cell (m := 7) rfl
  have l0 := ((unhide HK9).vat 4 rfl).cell (m := 0) rfl
  have l1 := ((unhide HK9).vat 4 rfl).cell (m := 1) rfl
  have l2 := ((unhide HK9).vat 4 rfl).cell (m := 2) rfl
  go_wp2_with fail
  clear k0 k1 k2 k3 k4 k5 k6 k7 j0 j1 j2 j3 j4 j5 j6 j7 l0 l1 l2
  go_loopw [15, 16] (fun z15 zz X => ∃ i : Nat, zz = .int .i64 (i : Int) ∧ i ≤ n ∧ z15 = .int .i64 (tkn S s0.T i) ∧ Keep w [(b14, 31, [.int .i64 0, .int .i64 0, .int .i64 (W : Int), .int .i64 (H : Int), .slice (some ⟨qb, 0, none⟩) n cb, .int .i64 s0.cut, .int .i64 s0.air, .int .i64 s0.dep]), (b13, 31, [.int .i64 0, .int .i64 0, .int .i64 (W : Int), .int .i64 (H : Int), .slice (some ⟨qa, 0, none⟩) n ca, .int .i64 sa.cut, .int .i64 sa.air, .int .i64 sa.dep]), (b10, 31, [.int .i64 E, .int .i64 bd, .int .i64 (W : Int), .int .i64 (H : Int), .slice (some ⟨q10, 0, none⟩) n c10, .int .i64 s0.cut, .int .i64 s0.air, .int .i64 s0.dep]), (b9, 31, [.int .i64 E, .int .i64 bd, .int .i64 (W : Int), .int .i64 (H : Int), .slice (some ⟨q9, 0, none⟩) n c9, .int .i64 s0.cut, .int .i64 s0.air, .int .i64 s0.dep]), (b5, 25, [.int .i64 (W : Int), .int .i64 (H : Int), .slice (some ⟨gs, pos, none⟩) n cs]), (b5 + 1, 25, [.int .i64 (W : Int), .int .i64 (H : Int), .slice (some ⟨g, po, none⟩) n c])] [(qb, 0, n, cb, s0.T), (qa, 0, n, ca, sa.T), (q10, 0, n, c10, s0.T), (q9, 0, n, c9, s0.T), (gs, pos, n, cs, S), (g, po, n, c, P)] X ∧ Below W2.heap.size W2 X) (fun _ zz _ => n - (intOf zz).toNat)
  case atStart => exact ⟨0, rfl, Nat.zero_le _, rfl, unhide HK9, unhide HR9⟩
  case round =>
    obtain ⟨i, rfl, hii, rfl, hz, hrr⟩ := hrel
    have HZ := hide hz
    have HRZ := hide hrr
    clear hz hrr HK9 HR9
    have k4 := ((unhide HZ).vat 0 rfl).cell (m := 4) rfl
    have j4 := ((unhide HZ).vat 1 rfl).cell (m := 4) rfl
    have l2 := ((unhide HZ).vat 4 rfl).cell (m := 2) rfl
    have p2 := ((unhide HZ).vat 5 rfl).cell (m := 2) rfl
    by_cases hc : i < n
    · have lz := decide_eq_true (show (i : Int) < (n : Int) by omega)
      have i1' : (i : Int) < (n : Int) := by omega
      have i0 : (0 : Int) ≤ (i : Int) := Int.natCast_nonneg _
      have cb0 := ((unhide HZ).fat 0 rfl).ints _ _ (tp_at (T := s0.T) (i := i) (by rw [((unhide HZ).fat 0 rfl).len]; exact hc))
      have ca0 := ((unhide HZ).fat 1 rfl).ints _ _ (tp_at (T := sa.T) (i := i) (by rw [((unhide HZ).fat 1 rfl).len]; exact hc))
      have cS0 := ((unhide HZ).fat 4 rfl).ints _ _ (tp_at (T := S) (i := i) (by rw [((unhide HZ).fat 4 rfl).len]; exact hc))
      have cP0 := ((unhide HZ).fat 5 rfl).ints _ _ (tp_at (T := P) (i := i) (by rw [((unhide HZ).fat 5 rfl).len]; exact hc))
      rw [Nat.zero_add] at cb0 ca0
      have g1 := (unhide HLE).top i
      have g2 := (unhide HLA).top i
      have g3 := (unhide HLP) i
      have g4 := (unhide HTB) i
      have g5 := (unhide HSTT) i
      have g6 := (unhide HPT) i
      simp only at g2
      have HTS : Hid (tkn S s0.T (i + 1) = tkn S s0.T i + (tp S i - tp s0.T i)) := hide rfl
      obtain ⟨xb, hxb⟩ : ∃ xb, tp s0.T i = xb := ⟨_, rfl⟩
      obtain ⟨xa, hxa⟩ : ∃ xa, tp sa.T i = xa := ⟨_, rfl⟩
      obtain ⟨xs, hxs⟩ : ∃ xs, tp S i = xs := ⟨_, rfl⟩
      obtain ⟨xp, hxp⟩ : ∃ xp, tp P i = xp := ⟨_, rfl⟩
      obtain ⟨tk, htk⟩ : ∃ tk, tkn S s0.T i = tk := ⟨_, rfl⟩
      rw [hxb] at cb0 g1 g3 HTS
      rw [hxa] at ca0 g1 g2
      rw [hxs] at cS0 g2 g5 HTS
      rw [hxp] at cP0 g3 g6
      rw [htk] at g4 HTS ⊢
      clear hxb hxa hxs hxp htk
      have d1 : decide (xa < xb) = false := decide_eq_false (by omega)
      have d2 : decide (xs < xa) = false := decide_eq_false (by omega)
      have d3 : decide (xb < xp) = false := decide_eq_false (by omega)
      have e1 : ¬ xa < xb := by omega
      have e2 : ¬ xs < xa := by omega
      have e3 : ¬ xb < xp := by omega
      have w1 : IntKind.i64.wrap (xs - xb) = xs - xb := wrap_i (by omega) (by omega)
      have w2 : IntKind.i64.wrap (tk + (xs - xb)) = tk + (xs - xb) := wrap_i (by omega) (by omega)
      go_wp2_with fail
      go_quiet (fail)
      go_wp2_with fail
      go_quiet (fail)
      go_wp2_with fail
      go_roundw
      case rel => exact ⟨i + 1, by simp, hc, by rw [unhide HTS], (unhide HZ).next (by repeat (first | exact Below.refl _ _ | refine bel_dn' ?_ _ | refine Below.drew ?_)), by repeat (first | exact unhide HRZ | refine bel_dn' ?_ _ | refine Below.drew ?_)⟩
      case measure => simp only [intOf]; omega
    · have lz : decide ((i : Int) < (n : Int)) = false := decide_eq_false (by omega)
      obtain rfl : n = i := by omega
      rw [unhide HTK]
      have HB0 : Hid (Below wr.heap.size wr (wr.alloc (.cells #[] 36))) := hide (ba (Below.refl _ _) _)
      have HO0 : Hid ((wr.alloc (.cells #[] 36)).ownsRow wr.heap.size 36 4 (.slice (some ⟨wr.heap.size, 0, none⟩) 0 0) 0 []) := hide (World.ownsRow_made wr #[] 0 (Nat.le_refl _) (by decide) (by simp))
      have hqB : qm < wr.heap.size := Nat.lt_of_lt_of_le hqlt (unhide HRZ).size
      go_wp2_with fail
      clear k4 j4 l2 p2 lz hc hii
      generalize hW0 : wr = W0 at *
      clear hW0
      go_loopw [17, 18] (fun z17 zz X => ∃ (j : Nat) (u : Option Addr) (cu : Nat), zz = .int .i64 (j : Int) ∧ j ≤ i1 ∧ z17 = .slice u (2 * j) cu ∧ u ≠ none ∧ X.ownsRow W0.heap.size 36 4 (.slice u (2 * j) cu) (2 * j) (flat4 (dbl (ms.take j))) ∧ Below W0.heap.size W0 X) (fun _ zz _ => i1 - (intOf zz).toNat)
      case atStart => exact ⟨0, _, _, rfl, Nat.zero_le _, rfl, by simp, unhide HO0, unhide HB0⟩
      case round =>
        obtain ⟨j, u, cu, rfl, hji, rfl, hun, ho, hb⟩ := hrel
        have HO := hide ho
        have HBX := hide hb
        have hBV := hb.size
        clear ho hb HO0 HB0
        by_cases hc : j < i1
        · have lz := decide_eq_true (show (j : Int) < (i1 : Int) by omega)
          obtain ⟨⟨mf, mx, my, mz⟩, hx⟩ := get_some (unhide HML) (show j < m by omega)
          obtain ⟨_, _, q0, q1, q2, q3⟩ := ((unhide HMV) _ (bc (unhide HRZ) (unhide HBX))).at hx
          simp only [Nat.zero_add] at q0 q1 q2 q3
          have HTK2 : Hid (dbl (ms.take (j + 1)) = dbl (ms.take j) ++ [⟨mf, mx, my, mz⟩, ⟨mf, mx, my, mz⟩]) := hide (by rw [List.take_add_one, hx, dbl_append]; rfl)
          have H0 := hide q0
          have H1 := hide q1
          have H2 := hide q2
          have H3 := hide q3
          clear hx q0 q1 q2 q3
          obtain ⟨L2, hL2⟩ : ∃ L2, 2 * j = L2 := ⟨_, rfl⟩
          rw [hL2] at HO
          rw [hL2]
          have hl2' : L2 ≤ 1000 := by omega
          have HL2 := hide hL2
          clear hL2
          go_wp2_with fail
          refine Go.Code.wp_mono (Only.to (fun _ _ h => h)) (mm28 (by omega) hl2' hqB hBV H0 H1 H2 H3 HO (fun y204 y205 y206 y207 y208 y209 y210 y211 y212 y213 y214 vq cq Wx hbx hox => ?_))
          have HOX := hide hox
          have HBY := hide ((unhide HBX).trans hbx)
          have hvn : vq ≠ none := own_some hox (by omega)
          clear hbx hox HO H0 H1 H2 H3
          go_wp2_with fail
          go_roundw
          case rel => exact ⟨j + 1, vq, cq, by simp, hc, by rw [show 2 * (j + 1) = L2 + 2 by have := unhide HL2; omega], hvn, by rw [show 2 * (j + 1) = L2 + 2 by have := unhide HL2; omega, unhide HTK2, flat4_append]; exact unhide HOX, unhide HBY⟩
          case measure => simp only [intOf]; omega
        · have lz : decide ((j : Int) < (i1 : Int)) = false := decide_eq_false (by omega)
          obtain rfl : i1 = j := by omega
          obtain ⟨qt, ct, hv, _, hct1, hct2, hmt⟩ := own_mvs (unhide HO) (by cases u with | none => exact absurd rfl hun | some x => simp)
          cases hv
          have HZX := hide ((unhide HZ).next (unhide HBX))
          have HMT := hide hmt
          obtain ⟨gd, _, ld⟩ := mlK_dbl (P := P) (ms := ms.take i1) hr3 (unhide HJK).1 (unhide HJK).2.1 (unhide HJK).2.2.1 (unhide HJK).2.2.2.1 (unhide HJK).2.2.2.2.2 (unhide HSL) (unhide HSTT) i1 (by have := unhide HML; simp; omega) (mlEnd_take (by have := unhide HML; omega) (unhide HI0).go).go
          rw [mlK_take i1 (Nat.le_refl _), unhide HS0] at ld
          have HLT : Hid ((dbl (ms.take i1)).length = 2 * i1) := hide (by rw [dbl_len]; have := unhide HML; simp; omega)
          obtain ⟨L2, hL2⟩ : ∃ L2, 2 * i1 = L2 := ⟨_, rfl⟩
          rw [hL2] at HLT gd ld
          rw [hL2]
          have hl2' : L2 ≤ 200 := by omega
          have t9 : decide ((2000 : Int) < (L2 : Int)) = false := decide_eq_false (by omega)
          have HGD := hide gd
          obtain ⟨s2, hs2⟩ : ∃ s2, (mlK P W H r S (dbl (ms.take i1)) L2).2 = s2 := ⟨_, rfl⟩
          rw [hs2] at ld
          have HLD := hide ld
          have HS2 := hide hs2
          have HWX := hide (unhide HZX).bel
          clear hmt gd ld hs2 hL2 HO HBX HZ hun
          have k0 := ((unhide HZX).vat 4 rfl).cell (m := 0) rfl
          have k1 := ((unhide HZX).vat 4 rfl).cell (m := 1) rfl
          have k2 := ((unhide HZX).vat 4 rfl).cell (m := 2) rfl
          have l0 := ((unhide HZX).vat 5 rfl).cell (m := 0) rfl
          have l1 := ((unhide HZX).vat 5 rfl).cell (m := 1) rfl
          have l2 := ((unhide HZX).vat 5 rfl).cell (m := 2) rfl
          go_wp2_with fail
          refine (mlP_upto W H r gs pos cs g po c n S P qt L2 cu (dbl (ms.take i1)) _ (unhide HJK).1 (unhide HJK).2.1 (unhide HJK).2.2.1 (unhide HJK).2.2.2.1 hr3 (unhide HJK).2.2.2.2.2 ((unhide HZX).fat 4 rfl) ((unhide HZX).fat 5 rfl) (unhide HSTT) (unhide HPT) (unhide HST) (unhide HLT) (by omega) (unhide HMT) (unhide HGD)).mono ?_
          rintro e Wy ⟨⟨qc, cc, rfl, hro⟩, hby⟩
          rw [unhide HS2] at hro ⊢
          have hA : Below Wy.heap.size Wy (Wy.alloc (.cells #[.int .i64 0, .int .i64 0, .int .i64 (W : Int), .int .i64 (H : Int), .slice (some ⟨qc, 0, none⟩) n cc, .int .i64 s2.cut, .int .i64 s2.air, .int .i64 s2.dep] 31)) := ba (Below.refl _ _) _
          have HKY := hide ((((unhide HZX).next hby).next hA).addv (vb_new Wy 31 [.int .i64 0, .int .i64 0, .int .i64 (W : Int), .int .i64 (H : Int), .slice (some ⟨qc, 0, none⟩) n cc, .int .i64 s2.cut, .int .i64 s2.air, .int .i64 s2.dep] _ rfl) |>.addf (hro.fd.bel hA))
          clear hro hby hA HZX HWX k0 k1 k2 l0 l1 l2
          go_upto_region 32 with fail
          generalize Wy.alloc (.cells #[.int .i64 0, .int .i64 0, .int .i64 (W : Int), .int .i64 (H : Int), .slice (some ⟨qc, 0, none⟩) n cc, .int .i64 s2.cut, .int .i64 s2.air, .int .i64 s2.dep] 31) = Wz at *
          generalize Wy.heap.size = b19 at *
          have hcut := (unhide HLD).cut
          have x1 : (s0.cut == s0.cut) = true := by simp
          have x2 : (s2.cut == s0.cut) = true := by simpa using hcut
          have HTT := hide (unhide HLD).top
          clear hcut
          have k0 := ((unhide HKY).vat 0 rfl).cell (m := 0) rfl
          have k1 := ((unhide HKY).vat 0 rfl).cell (m := 1) rfl
          have k2 := ((unhide HKY).vat 0 rfl).cell (m := 2) rfl
          have k3 := ((unhide HKY).vat 0 rfl).cell (m := 3) rfl
          have k4 := ((unhide HKY).vat 0 rfl).cell (m := 4) rfl
          have k5 := ((unhide HKY).vat 0 rfl).cell (m := 5) rfl
          have k6 := ((unhide HKY).vat 0 rfl).cell (m := 6) rfl
          have k7 := ((unhide HKY).vat 0 rfl).cell (m := 7) rfl
          have j0 := ((unhide HKY).vat 1 rfl).cell (m := 0) rfl
          have j1 := ((unhide HKY).vat 1 rfl).cell (m := 1) rfl
          have j2 := ((unhide HKY).vat 1 rfl).cell (m := 2) rfl
          have j3 := ((unhide HKY).vat 1 rfl).cell (m := 3) rfl
          have j4 := ((unhide HKY).vat 1 rfl).cell (m := 4) rfl
          have j5 := ((unhide HKY).vat 1 rfl).cell (m := 5) rfl
          have j6 := ((unhide HKY).vat 1 rfl).cell (m := 6) rfl
          have j7 := ((unhide HKY).vat 1 rfl).cell (m := 7) rfl
          go_wp2_with fail
          refine (unhide HSM qc qb cc cb 0 0 _ _ ((unhide HKY).fat 0 rfl) (by rw [unhide HTT]; exact (unhide HKY).fat 1 rfl)).mono ?_
          rintro e Wf ⟨rfl, hbf⟩
          have HFN := hide ((unhide HKY).next hbf).bel
          clear hbf HKY k0 k1 k2 k3 k4 k5 k6 k7 j0 j1 j2 j3 j4 j5 j6 j7
          go_wp2_with fail
          go_ret
          exact ⟨rfl, unhide HFN⟩
end Go.Proofs.Ytbjljofgpbecbaa
