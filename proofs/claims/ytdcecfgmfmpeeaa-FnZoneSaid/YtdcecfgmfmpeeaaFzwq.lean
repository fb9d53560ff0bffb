/-
  FnZone's walk.
-/
import Derived.Test.YtdcecfgmfmpeeaaFzaq
import Derived.Test.YtdcecfgmfmpeeaaRgMdq
import Derived.Test.YtdcecfgmfmpeeaaFzsq
import Derived.Test.YtdcecfgmfmpeeaaFztq
import Derived.Test.YtdcecfgmfmpeeaaFzuq
import Derived.Test.YtdcecfgmfmpeeaaApNq
import Derived.Test.YtdcecfgmfmpeeaaZoMq
import Derived.Lib.MinMax
import Derived.BigQuiet
namespace Go.Proofs.Ytdcecfgmfmpeeaa
open Go.ChangeShapes Go.WideShapes Go.ChangeAt Go.RowKit
set_option linter.unusedVariables false
set_option linter.unusedSimpArgs false
set_option maxHeartbeats 1000000 in
theorem away_core (x y q0 q1 q2 q3 X Y D N u v uu vv r : Int) (w : World) (h1 : IntKind.i64.wrap (x * D) = x * D) (h2 : IntKind.i64.wrap (y * D) = y * D) (h3 : IntKind.i64.wrap (x * D - X) = u) (h4 : IntKind.i64.wrap (y * D - Y) = v) (h5 : IntKind.i64.wrap (u * u) = uu) (h6 : IntKind.i64.wrap (v * v) = vv) (h7 : IntKind.i64.wrap (uu + vv) = r) :
  Calls Try.prog 12 #[.agg #[.int .i64 x, .int .i64 y], .agg #[.int .i64 q0, .int .i64 q1, .int .i64 q2, .int .i64 q3, .int .i64 X, .int .i64 Y, .int .i64 D, .int .i64 N]] w fun e w' => e = .returned (.int .i64 r) ∧ Below w.heap.size w w' := by
 go_enter Try.func12, Try.ntmps12
 go_wp2_with fail
 go_ret
 exact ⟨rfl, ba (ba (Below.refl _ _) _) _⟩
theorem away_any (q0 q1 q2 q3 : Int) (c : Ic) (p : Pt) (w : World) (h : NrS (c.X, c.Y, c.D)) (hp : Nr1 p) :
  Calls Try.prog 12 #[.agg #[.int .i64 p.1, .int .i64 p.2], rgV q0 q1 q2 q3 c] w fun e w' => e = .returned (.int .i64 (apt c p)) ∧ Below w.heap.size w w' := by
 obtain ⟨w1, w2, w3, w4, w5, w6, w7⟩ := apt_w (c := c) (x := p.1) (y := p.2) h hp
 exact away_core p.1 p.2 q0 q1 q2 q3 c.X c.Y c.D c.N _ _ _ _ _ w w1 w2 w3 w4 w5 w6 w7
theorem tol_some {P : List Pt} (hne : P ≠ []) : 1 ≤ (tolL P (smc 3 P [])).length := by
 have ht := smc_told hne
 unfold tolL
 by_cases h1 : (rimL P (smc 3 P [])).length = 1
 ·rw [if_pos h1]; omega
 ·rw [if_neg h1]
  rcases ht.2 with h | h | h
  ·exact absurd h h1
  ·cases hf : fp (qP2 P (smc 3 P [])) (rimL P (smc 3 P [])) with
   | none => exact absurd hf h
   | some q => simp
  ·cases hf : fp (qP2 P (smc 3 P [])) (rimL P (smc 3 P [])) with
   | some q => simp
   | none =>
    cases hg : ft (qP3 P) (rimL P (smc 3 P [])) with
    | none => exact absurd hg h
    | some q => simp
theorem nth_mem (L : List Nat) : ∀ k, k < L.length → ∃ j : Nat, nth L k = (j : Int) ∧ j ∈ L := fun k hk => by
 refine ⟨L.getD k 0, rfl, ?_⟩
 rw [List.getD_eq_getElem?_getD, List.getElem?_eq_getElem hk]
 exact List.getElem_mem hk
theorem half_bd {s : Int} (h1 : -400 ≤ s) (h2 : s ≤ 400) : -200 ≤ s.tdiv 2 ∧ s.tdiv 2 ≤ 200 := by
 rcases Int.le_total 0 s with h | h
 ·rw [Int.tdiv_eq_ediv_of_nonneg h]; omega
 ·obtain ⟨t, rfl⟩ : ∃ t, s = -t := ⟨-s, by omega⟩
  rw [Int.neg_tdiv, Int.tdiv_eq_ediv_of_nonneg (by omega)]; omega
structure Fzk (b cap n : Nat) (P : List Pt) (w : World) : Prop where
 len : P.length = n
 n1 : 1 ≤ n
 n2 : n ≤ 23
 cap' : n ≤ cap
 near : Nrl P
 lt : b < w.heap.size
 ints : IntsAt w b 0 (flat2 P)
theorem Fzk.bel {b cap n : Nat} {P : List Pt} {w w' : World} (h : Fzk b cap n P w) (hb : Below w.heap.size w w') : Fzk b cap n P w' := ⟨h.len, h.n1, h.n2, h.cap', h.near, Nat.lt_of_lt_of_le h.lt hb.size, h.ints.below hb h.lt⟩
theorem nrl_nr {P : List Pt} (h : Nrl P) : P.all nrP = true := List.all_eq_true.2 (fun p hp => decide_eq_true (h p hp))
theorem Fzk.good {b cap n : Nat} {P : List Pt} {w : World} (h : Fzk b cap n P w) : 1 ≤ P.length ∧ P.length ≤ 200 ∧ P.all nrP = true := by
 have := h.len
 have := h.n1
 have := h.n2
 exact ⟨by omega, by omega, nrl_nr h.near⟩
theorem Fzk.mc {b cap n : Nat} {P : List Pt} {w : World} (h : Fzk b cap n P w) : mcC P = 0 := by
 unfold mcC
 have := h.good
 rw [if_neg (by omega), if_pos this]
theorem Fzk.ne {b cap n : Nat} {P : List Pt} {w : World} (h : Fzk b cap n P w) : P ≠ [] := fun e => by
 have := h.good
 rw [e] at this
 simp at this
theorem Fzk.zp {b cap n : Nat} {P : List Pt} {w : World} (h : Fzk b cap n P w) : Calls Try.prog 7 #[.slice (some ⟨b, 0, none⟩) n cap] w fun e w' => e = .returned (.tuple #[zoV (zoR P), .int .i64 0]) ∧ Below w.heap.size w w' := by
 have h1 := zoP_any b cap P w (by have := h.good; omega) h.lt h.ints
 rw [h.mc, h.len] at h1
 exact h1
theorem Fzk.zm {b cap n : Nat} {P : List Pt} {w : World} (h : Fzk b cap n P w) : Calls Try.prog 8 #[.slice (some ⟨b, 0, none⟩) n cap] w fun e w' => e = .returned (.tuple #[zoV (zoR P), .int .i64 0]) ∧ Below w.heap.size w w' := by
 have h1 := zoM_any b cap P w (by have := h.good; omega) h.lt h.ints
 rw [h.mc, h.len] at h1
 exact h1
theorem Fzk.rr {b cap n : Nat} {P : List Pt} {w : World} (h : Fzk b cap n P w) : rgR P = rgA P := by unfold rgR; rw [if_neg (fun q => q h.mc)]
theorem Fzk.rp {b cap n : Nat} {P : List Pt} {w : World} (h : Fzk b cap n P w) : Calls Try.prog 10 #[.slice (some ⟨b, 0, none⟩) n cap] w fun e w' => e = .returned (.tuple #[rgA P, .int .i64 0]) ∧ Below w.heap.size w w' := by
 have h1 := rgP_any b cap P w (by have := h.good; omega) (by rw [h.len]; exact h.cap') h.lt h.ints
 rw [h.mc, h.len, h.rr] at h1
 exact h1
theorem Fzk.rm {b cap n : Nat} {P : List Pt} {w : World} (h : Fzk b cap n P w) : Calls Try.prog 11 #[.slice (some ⟨b, 0, none⟩) n cap] w fun e w' => e = .returned (.tuple #[rgA P, .int .i64 0]) ∧ Below w.heap.size w w' := by
 have h1 := rgM_any b cap P w (by have := h.good; omega) h.lt h.ints
 rw [h.mc, h.len, h.rr] at h1
 exact h1
theorem Fzk.hu {b cap n : Nat} {P : List Pt} {w : World} (h : Fzk b cap n P w) : Calls Try.prog 9 #[.slice (some ⟨b, 0, none⟩) n cap] w fun e w' => ∃ v, e = .returned (.tuple #[v, .int .i64 0]) ∧ Row w' w.heap.size 30 2 v (hullM (srtU P)).length (flat2 (hullM (srtU P))) ∧ Below w.heap.size w w' := by
 have g := h.good
 have h1 := hullI_any b cap P w (by omega) h.lt h.ints
 have hC : hullC P = 0 := by unfold hullC; rw [if_neg (by omega), if_pos ⟨g.1, g.2.1, nr_ptok g.2.2⟩]
 have hL : hullL P = hullM (srtU P) := by unfold hullL; rw [if_neg (by omega), if_pos ⟨g.1, g.2.1, nr_ptok g.2.2⟩]
 rw [hC, hL, h.len] at h1
 exact h1
theorem Fzk.more {b cap n : Nat} {P : List Pt} {w : World} (h : Fzk b cap n P w) {mx my : Int} (hm : Nr1 (mx, my)) : ∃ t0 t1 t2 t3 : Int, ∀ (X : World) (v : Value) (B : Nat), Row X B 30 2 v (n + 1) (flat2 P ++ [mx, my]) → Calls Try.prog 10 #[v] X fun e w' => e = .returned (.tuple #[.agg #[.int .i64 t0, .int .i64 t1, .int .i64 t2, .int .i64 t3, .int .i64 (smc 3 (P ++ [(mx, my)]) []).X, .int .i64 (smc 3 (P ++ [(mx, my)]) []).Y, .int .i64 (smc 3 (P ++ [(mx, my)]) []).D, .int .i64 (smc 3 (P ++ [(mx, my)]) []).N], .int .i64 0]) ∧ Below X.heap.size X w' := by
 refine ⟨((tolL (P ++ [(mx, my)]) (smc 3 (P ++ [(mx, my)]) [])).length : Int), nth (tolL (P ++ [(mx, my)]) (smc 3 (P ++ [(mx, my)]) [])) 0, nth (tolL (P ++ [(mx, my)]) (smc 3 (P ++ [(mx, my)]) [])) 1, nth (tolL (P ++ [(mx, my)]) (smc 3 (P ++ [(mx, my)]) [])) 2, fun X v B hr => ?_⟩
 have hl : (P ++ [(mx, my)]).length = n + 1 := by rw [List.length_append, h.len]; rfl
 obtain ⟨g, cp, rfl, _, hg, hi, hc, _⟩ := hr.full (by omega)
 have h2 := h.n2
 have k : Fzk g cp (n + 1) (P ++ [(mx, my)]) X → True := fun _ => trivial
 have hg2 : 1 ≤ (P ++ [(mx, my)]).length ∧ (P ++ [(mx, my)]).length ≤ 200 ∧ (P ++ [(mx, my)]).all nrP = true := ⟨by omega, by omega, nrl_nr (h.near.snoc hm)⟩
 have hmc : mcC (P ++ [(mx, my)]) = 0 := by unfold mcC; rw [if_neg (by omega), if_pos hg2]
 have hrr : rgR (P ++ [(mx, my)]) = rgA (P ++ [(mx, my)]) := by unfold rgR; rw [if_neg (fun q => q hmc)]
 have key := rgP_any g cp (P ++ [(mx, my)]) X (by omega) (by omega) hg (by rw [flat2_app]; exact hi)
 rw [hmc, hrr, hl] at key
 exact key
set_option maxHeartbeats 8000000 in
set_option maxRecDepth 100000 in
theorem fnZone_core (a1 : Option Addr) (len1 cap1 : Nat) (a2 : Option Addr) (len2 cap2 : Nat) (w : World) (hl1 : len1 ≤ 1048576) (hl2 : len2 ≤ 1048576)
  (HPO : Hid (Calls Try.prog 6 #[.slice a1 len1 cap1] w fun e w' => ∃ (gp c : Nat) (L : List Pt), e = .returned (.slice (some ⟨gp, 0, none⟩) L.length c) ∧ 1 ≤ L.length ∧ L.length ≤ 23 ∧ L.length ≤ c ∧ Nrl L ∧ w.heap.size ≤ gp ∧ gp < w'.heap.size ∧ IntsAt w' gp 0 (flat2 L) ∧ Below w.heap.size w w'))
  (HAT : Hid (∀ (i n : Int) W, Below w.heap.size w W → 0 ≤ i ∧ i ≤ 100 → 1 ≤ n ∧ n ≤ 1000 → Calls Try.prog 13 #[.slice a2 len2 cap2, .int .i64 i, .int .i64 n] W fun e w' => ∃ r : Int, e = .returned (.int .i64 r) ∧ 0 ≤ r ∧ r < n ∧ Below W.heap.size W w')) :
  Calls Try.prog 3 #[.slice a1 len1 cap1, .slice a2 len2 cap2] w fun e w' => e = .returned (.bool true) ∧ Below w.heap.size w w' := by
 have t1 : decide ((1048576 : Int) < (len1 : Int)) = false := decide_eq_false (by omega)
 have t2 : decide ((1048576 : Int) < (len2 : Int)) = false := decide_eq_false (by omega)
 have t3 : ¬ (1048576 : Int) < (len1 : Int) := by omega
 have t4 : ¬ (1048576 : Int) < (len2 : Int) := by omega
 go_enter Try.func3, Try.ntmps3
 go_wp2_with fail
 refine (zu HPO).mono ?_
 rintro e W1 ⟨b, c, P, rfl, hn0, hn1, hnc, hnr, hgp, hg, hI, hb1⟩
 obtain ⟨n, hPn⟩ : ∃ n, P.length = n := ⟨_, rfl⟩
 rw [hPn] at hn0 hn1 hnc ⊢
 have HK : Hid (Fzk b c n P W1) := hide ⟨hPn, hn0, hn1, hnc, hnr, hg, hI⟩
 have HB1 := hide hb1
 obtain ⟨ia, ib, hzf⟩ := zone_fact (zu HK).good
 obtain ⟨z, hz⟩ : ∃ z, zoR P = z := ⟨_, rfl⟩
 rw [hz] at hzf
 have HZP := hide (fun X (hX : Below W1.heap.size W1 X) => ((zu HK).bel hX).zp)
 have HZM := hide (fun X (hX : Below W1.heap.size W1 X) => ((zu HK).bel hX).zm)
 rw [hz] at HZP HZM
 obtain ⟨zA, zB, zC, zN, zD⟩ := z
 have eA := hzf.a
 have eB := hzf.b
 simp only at eA eB
 subst eA eB
 have ha := ptAt_some hzf.la
 have hbb := ptAt_some hzf.lb
 have hla : ia < n := by have := hzf.la; omega
 have hlb : ib < n := by have := hzf.lb; omega
 have hs0 := hzf.s0
 have hs1 := hzf.s1
 have na := hnr.at hzf.la
 have nb := hnr.at hzf.lb
 obtain ⟨⟨ax, ay⟩, hae⟩ : ∃ q, ptAt P ia = q := ⟨_, rfl⟩
 obtain ⟨⟨bx, by'⟩, hbe⟩ : ∃ q, ptAt P ib = q := ⟨_, rfl⟩
 rw [hae] at ha na hs0 hs1
 rw [hbe] at hbb nb hs0 hs1
 have HA := hide ha
 have HBp := hide hbb
 have HS0 := hide hs0
 have HS1 := hide hs1
 have HZW := hide hzf.w
 have HZO := hide hzf.ok
 have HNR := hide hnr
 simp only at HS1 HZO HZW
 have HNA : Hid (Nr1 (ax, ay)) := hide na
 have HNB : Hid (Nr1 (bx, by')) := hide nb
 have HLN := hide hPn
 have zz : (0 : Int) ≤ (ia : Int) := by omega
 have zz2 : (0 : Int) ≤ (ib : Int) := by omega
 have i1 : (ia : Int) < (n : Int) := by omega
 have i2 : (ib : Int) < (n : Int) := by omega
 clear hPn hI hg hgp hnr hb1 hz hzf ha hbb hae hbe hs0 hs1 na nb
 unfold zoV at HZP HZM
 simp only at HZP HZM
 go_wp2_with fail
 refine (zu HZP _ (Below.refl _ _)).mono ?_
 rintro e W2 ⟨rfl, hb2⟩
 have hA6 : Below W2.heap.size W2 (W2.alloc (.cells #[.int .i64 (ia : Int), .int .i64 (ib : Int), .int .i64 zC, .int .i64 zN, .int .i64 zD] 26)) := ba (Below.refl _ _) _
 have R6 := hide (cb_new W2 26 [.int .i64 (ia : Int), .int .i64 (ib : Int), .int .i64 zC, .int .i64 zN, .int .i64 zD] W2.heap.size rfl)
 have B2 := hide (bc hb2 hA6)
 clear hb2 hA6
 go_upto_region 5 with fail
 generalize W2.alloc (.cells #[.int .i64 (ia : Int), .int .i64 (ib : Int), .int .i64 zC, .int .i64 zN, .int .i64 zD] 26) = W3 at *
 generalize W2.heap.size = g6 at *
 go_wp2_with fail
 refine (zu HZM _ (zu B2)).mono ?_
 rintro e W4 ⟨rfl, hb4⟩
 have hA8 : Below W4.heap.size W4 (W4.alloc (.cells #[.int .i64 (ia : Int), .int .i64 (ib : Int), .int .i64 zC, .int .i64 zN, .int .i64 zD] 26)) := ba (Below.refl _ _) _
 have R8 := hide (cb_new W4 26 [.int .i64 (ia : Int), .int .i64 (ib : Int), .int .i64 zC, .int .i64 zN, .int .i64 zD] W4.heap.size rfl)
 have R6a := hide (((zu R6).bel hb4).bel hA8)
 have B4 := hide (bc (zu B2) (bc hb4 hA8))
 clear hb4 hA8 R6 B2
 go_upto_region 6 with fail
 generalize W4.alloc (.cells #[.int .i64 (ia : Int), .int .i64 (ib : Int), .int .i64 zC, .int .i64 zN, .int .i64 zD] 26) = W5 at *
 generalize W4.heap.size = g8 at *
 have K5 := hide ((zu HK).bel (zu B4))
 obtain ⟨p0, p1⟩ := pts_at (zu K5).ints (zu HA)
 obtain ⟨p2, p3⟩ := pts_at (zu K5).ints (zu HBp)
 have v0 := (zu R6a).cell (m := 0) rfl
 have v1 := (zu R6a).cell (m := 1) rfl
 have v2 := (zu R6a).cell (m := 2) rfl
 have v3 := (zu R6a).cell (m := 3) rfl
 have v4 := (zu R6a).cell (m := 4) rfl
 have x0 := (zu R8).cell (m := 0) rfl
 have x1 := (zu R8).cell (m := 1) rfl
 have x2 := (zu R8).cell (m := 2) rfl
 have x3 := (zu R8).cell (m := 3) rfl
 have x4 := (zu R8).cell (m := 4) rfl
 have p2' := ka (o := .cells #[.int .i64 ax, .int .i64 ay] 30) p2
 have p3' := ka (o := .cells #[.int .i64 ax, .int .i64 ay] 30) p3
 have v1' := ka (o := .cells #[.int .i64 ax, .int .i64 ay] 30) v1
 have hA10 : Below W5.heap.size W5 ((W5.alloc (.cells #[.int .i64 ax, .int .i64 ay] 30)).alloc (.cells #[.int .i64 bx, .int .i64 by'] 30)) := ba (ba (Below.refl _ _) _) _
 have R10 := hide (cb_new1 W5 30 [.int .i64 ax, .int .i64 ay] (.cells #[.int .i64 bx, .int .i64 by'] 30))
 have R11 := hide (cb_new2 W5 30 [.int .i64 bx, .int .i64 by'] (.cells #[.int .i64 ax, .int .i64 ay] 30))
 have R6b := hide ((zu R6a).bel hA10)
 have B6 := hide (bc (zu B4) hA10)
 clear hA10 R6a B4 K5 R8
 go_upto_region 10 with fail
 clear p0 p1 p2 p3 p2' p3' v0 v1 v1' v2 v3 v4 x0 x1 x2 x3 x4
 generalize (W5.alloc (.cells #[.int .i64 ax, .int .i64 ay] 30)).alloc (.cells #[.int .i64 bx, .int .i64 by'] 30) = W6 at *
 generalize W5.heap.size = g10 at *
 have K6 := hide ((zu HK).bel (zu B6))
 have hbA := zu HNA
 have hbB := zu HNB
 obtain ⟨ha1, ha2, ha3, ha4⟩ := hbA
 obtain ⟨hb1, hb2, hb3, hb4⟩ := hbB
 simp only at ha1 ha2 ha3 ha4 hb1 hb2 hb3 hb4
 have w1 : IntKind.i64.wrap (bx - ax) = bx - ax := wr64 (by omega) (by omega)
 have w2 : IntKind.i64.wrap (by' - ay) = by' - ay := wr64 (by omega) (by omega)
 go_wp2_with fail
 go_loopw [12] (fun z X => ∃ i : Nat, z = .int .i64 (i : Int) ∧ i ≤ n ∧ Same W6 X) (fun z _ => n - (intOf z).toNat)
 case atStart => exact ⟨0, rfl, Nat.zero_le _, Same.refl _⟩
 case round =>
  obtain ⟨i, rfl, hi, hs⟩ := hrel
  have HS := hide hs
  by_cases h : i < n
  ·have j1 : (i : Int) < (n : Int) := by omega
   have j0 : (0 : Int) ≤ (i : Int) := by omega
   have jz : decide ((i : Int) < (n : Int)) = true := decide_eq_true j1
   have hx := ptAt_some (L := P) (i := i) (by rw [zu HLN]; exact h)
   have s0 := zu HS0 i (by rw [zu HLN]; exact h)
   have s1 := zu HS1 i (by rw [zu HLN]; exact h)
   have nx := (zu HNR).at (i := i) (by rw [zu HLN]; exact h)
   obtain ⟨⟨x, y⟩, hxy⟩ : ∃ q, ptAt P i = q := ⟨_, rfl⟩
   rw [hxy] at hx s0 s1 nx
   have sb := side_bd2 (zu HNA) (zu HNB) nx
   obtain ⟨n1, n2, n3, n4⟩ := nx
   simp only at n1 n2 n3 n4
   obtain ⟨c0, c1⟩ := pts_at (zu K6).ints hx
   have d0 := (zu R10).cell (m := 0) rfl
   have d1 := (zu R10).cell (m := 1) rfl
   have e0 := (zu R11).cell (m := 0) rfl
   have e1 := (zu R11).cell (m := 1) rfl
   have f3 := (zu R6b).cell (m := 3) rfl
   rw [← hs.cell] at c0 c1 d0 d1 e0 e1 f3
   obtain ⟨s, hse⟩ : ∃ s, side (ax, ay) (bx, by') (x, y) = s := ⟨_, rfl⟩
   have m1 := mulB (x := bx - ax) (y := y - ay) (a := 400) (b := 400) (by omega) (by omega) (by omega) (by omega)
   have m2 := mulB (x := by' - ay) (y := x - ax) (a := 400) (b := 400) (by omega) (by omega) (by omega) (by omega)
   rw [hse] at s0 s1 sb
   have ms := mulB (x := s) (y := s) (a := 320000) (b := 320000) (by omega) (by omega) (by omega) (by omega)
   have w3 : IntKind.i64.wrap (y - ay) = y - ay := wr64 (by omega) (by omega)
   have w4 : IntKind.i64.wrap (x - ax) = x - ax := wr64 (by omega) (by omega)
   have w5 : IntKind.i64.wrap ((bx - ax) * (y - ay)) = (bx - ax) * (y - ay) := wr64 (by omega) (by omega)
   have w6 : IntKind.i64.wrap ((by' - ay) * (x - ax)) = (by' - ay) * (x - ax) := wr64 (by omega) (by omega)
   have w7 : IntKind.i64.wrap ((bx - ax) * (y - ay) - (by' - ay) * (x - ax)) = s := (wr64 (by omega) (by omega)).trans hse
   obtain ⟨ss, hss⟩ : ∃ ss, s * s = ss := ⟨_, rfl⟩
   have w8 : IntKind.i64.wrap (s * s) = ss := (wr64 (by omega) (by omega)).trans hss
   have k1 : decide (s < 0) = false := decide_eq_false (by omega)
   have k1' : ¬ s < 0 := by omega
   have k2 : decide (zN < ss) = false := decide_eq_false (by rw [← hss]; omega)
   have k2' : ¬ zN < ss := by rw [← hss]; omega
   have w9 : IntKind.i64.wrap ((i : Int) + 1) = (i : Int) + 1 := wr64 (by omega) (by omega)
   clear hs hx hxy hse hss m1 m2 ms s0 s1 sb
   go_wp2_with fail
   go_quiet (fail)
   go_wp2_with fail
   go_roundw
   case rel =>
    first | exact ⟨i + 1, by simp, h, sameDn (zu HS) _⟩ | ((repeat apply Exists.intro); refine ⟨?_, rfl⟩; exact ⟨i + 1, by simp, h, sameDn (zu HS) _⟩)
   case measure => first | (simp only [intOf]; omega) | (simp [intOf]; omega)
  ·have j1 : ¬ (i : Int) < (n : Int) := by omega
   have jz : decide ((i : Int) < (n : Int)) = false := decide_eq_false j1
   have B7 : Hid (Below W1.heap.size W1 wr) := hide ((zu B6).trans hs.bel)
   have R6c : Hid (cb wr g6 26 [.int .i64 (ia : Int), .int .i64 (ib : Int), .int .i64 zC, .int .i64 zN, .int .i64 zD]) := hide (by unfold cb; rw [hs.heap]; exact zu R6b)
   generalize wr = W7 at *
   clear hs HS R10 R11 R6b B6 K6 w1 w2 HS0 HS1 HA HBp HNA HNB ha1 ha2 ha3 ha4 hb1 hb2 hb3 hb4
   go_wp2_with fail
   refine ((zu HK).bel (zu B7)).hu.mono ?_
   rintro e W8 ⟨v, rfl, hr, hb8⟩
   have hne := (zu HK).ne
   have hm1 : 1 ≤ (hullM (srtU P)).length := hull_some (srtU_ne hne)
   have hm400 : (hullM (srtU P)).length ≤ 400 := by
    have h1 := hullM_le (srtU P)
    have h2 := srtU_len P
    have h3 := zu HLN
    omega
   have HHN : Hid (∀ i, i < (hullM (srtU P)).length → Nr1 (ptAt (hullM (srtU P)) i)) := hide (fun i hi => zu HNR _ (hull_in (ptAt_mem hi)))
   have HSI : Hid (3 ≤ (hullM (srtU P)).length → ∀ i, i < (hullM (srtU P)).length → ∀ q ∈ P, 0 ≤ side (ptAt (hullM (srtU P)) i) (ptAt (hullM (srtU P)) ((i + 1) % (hullM (srtU P)).length)) q) := hide (fun h3 i hi => hull_sides h3 hi)
   rw [zu HLN] at HZW
   obtain ⟨H, hH⟩ : ∃ H, hullM (srtU P) = H := ⟨_, rfl⟩
   rw [hH] at hr hm1 hm400 HHN HSI HZW
   obtain ⟨m, hm⟩ : ∃ m, H.length = m := ⟨_, rfl⟩
   rw [hm] at hr hm1 hm400 HHN HSI HZW
   obtain ⟨gh, ch, rfl, hg1, hg2, hhi, hc1, hc2⟩ := hr.full (by omega)
   have HHI := hide hhi
   have HHM := hide hm
   have R6d := hide ((zu R6c).bel hb8)
   have B8 := hide (bc (zu B7) hb8)
   clear hr hhi hb8 hH hm B7 R6c hne
   go_wp2_with fail
   go_loopw [16] (fun z X => ∃ i : Nat, z = .int .i64 (i : Int) ∧ i ≤ m ∧ Below W8.heap.size W8 X) (fun z _ => m - (intOf z).toNat)
   case atStart => exact ⟨0, rfl, Nat.zero_le _, Below.refl _ _⟩
   case round =>
    obtain ⟨i, rfl, hi, hw⟩ := hrel
    have HW := hide hw
    clear hw
    by_cases hgo : i < m ∧ 2 < m
    ·obtain ⟨him, hm2⟩ := hgo
     have j1 : (i : Int) < (m : Int) := by omega
     have j0 : (0 : Int) ≤ (i : Int) := by omega
     have jz : decide ((i : Int) < (m : Int)) = true := decide_eq_true j1
     have k1 : (2 : Int) < (m : Int) := by omega
     have kz : decide ((2 : Int) < (m : Int)) = true := decide_eq_true k1
     obtain ⟨j, hj⟩ : ∃ j, (i + 1) % m = j := ⟨_, rfl⟩
     have hjm : j < m := by rw [← hj]; exact Nat.mod_lt _ (by omega)
     have hju : (j : Int) < (m : Int) := by omega
     have w1 : IntKind.i64.wrap ((i : Int) + 1) = (i : Int) + 1 := wr64 (by omega) (by omega)
     have tm : ((i : Int) + 1).tmod (m : Int) = (j : Int) := by rw [tmod_nat, hj]
     have m0 : ((m : Int) == 0) = false := beq_eq_false_iff_ne.2 (by omega)
     have zw := zu HZW (by omega) i him
     have hsi := zu HSI (by omega) i him
     have hu := ptAt_some (L := H) (i := i) (by rw [zu HHM]; exact him)
     have hv := ptAt_some (L := H) (i := j) (by rw [zu HHM]; exact hjm)
     have nu := zu HHN i him
     have nv := zu HHN j hjm
     rw [hj] at zw hsi
     obtain ⟨⟨ux, uy⟩, hue⟩ : ∃ q, ptAt H i = q := ⟨_, rfl⟩
     obtain ⟨⟨vx, vy⟩, hve⟩ : ∃ q, ptAt H j = q := ⟨_, rfl⟩
     rw [hue] at hu nu zw hsi
     rw [hve] at hv nv zw hsi
     have hHw := (zu HHI).below (zu HW) hg2
     obtain ⟨c0, c1⟩ := pts_at hHw hu
     obtain ⟨c2, c3⟩ := pts_at hHw hv
     have c2' := ka (o := .cells #[.int .i64 ux, .int .i64 uy] 30) c2
     have c3' := ka (o := .cells #[.int .i64 ux, .int .i64 uy] 30) c3
     have hAl : Below wr.heap.size wr ((wr.alloc (.cells #[.int .i64 ux, .int .i64 uy] 30)).alloc (.cells #[.int .i64 vx, .int .i64 vy] 30)) := ba (ba (Below.refl _ _) _) _
     have R17 := hide (cb_new1 wr 30 [.int .i64 ux, .int .i64 uy] (.cells #[.int .i64 vx, .int .i64 vy] 30))
     have R18 := hide (cb_new2 wr 30 [.int .i64 vx, .int .i64 vy] (.cells #[.int .i64 ux, .int .i64 uy] 30))
     have B9 := hide (bc (zu HW) hAl)
     have HZWi := hide zw
     have HSIi := hide hsi
     have HNU : Hid (Nr1 (ux, uy)) := hide nu
     have HNV : Hid (Nr1 (vx, vy)) := hide nv
     clear hj hu hv nu nv hue hve zw hsi hHw hAl
     go_upto_region 22 with fail
     clear c0 c1 c2 c3 c2' c3'
     generalize (wr.alloc (.cells #[.int .i64 ux, .int .i64 uy] 30)).alloc (.cells #[.int .i64 vx, .int .i64 vy] 30) = W9 at *
     generalize wr.heap.size = g17 at *
     obtain ⟨f, hf⟩ : ∃ f : Nat → Int, (fun k => side (ux, uy) (vx, vy) (ptAt P k)) = f := ⟨_, rfl⟩
     have hf' : ∀ k, side (ux, uy) (vx, vy) (ptAt P k) = f k := fun k => by rw [← hf]
     rw [hf] at HZWi
     have HFE := hide hf'
     have HFP : Hid (∀ k, k < n → 0 ≤ f k) := hide (fun k hk => by rw [← hf']; exact zu HSIi _ (ptAt_mem (by rw [zu HLN]; exact hk)))
     have HMX := hide (fun k (hk : k ≤ n) => mxU_eq (f := f) (n := n) (zu HFP) k hk)
     have HMS : Hid (∀ k, mxU f (k + 1) = max (mxU f k) (f k)) := hide (fun k => rfl)
     have HM0 : Hid (mxU f 0 = 0) := hide rfl
     have hbU := zu HNU
     have hbV := zu HNV
     obtain ⟨ha1, ha2, ha3, ha4⟩ := hbU
     obtain ⟨hb1, hb2, hb3, hb4⟩ := hbV
     simp only at ha1 ha2 ha3 ha4 hb1 hb2 hb3 hb4
     have w2 : IntKind.i64.wrap (vx - ux) = vx - ux := wr64 (by omega) (by omega)
     have w3 : IntKind.i64.wrap (vy - uy) = vy - uy := wr64 (by omega) (by omega)
     generalize mxU f = g at *
     clear hf hf' HSIi
     go_wp2_with fail
     go_loopw [19, 20] (fun z19 z X => ∃ k : Nat, z = .int .i64 (k : Int) ∧ k ≤ n ∧ z19 = .int .i64 (g k) ∧ Same W9 X) (fun _ z _ => n - (intOf z).toNat)
     case atStart => exact ⟨0, rfl, Nat.zero_le _, by rw [zu HM0], Same.refl _⟩
     case round =>
      obtain ⟨k, rfl, hk, rfl, hs⟩ := hrel
      have HS := hide hs
      have K9 := ((zu HK).bel ((zu B8).trans ((zu B9).mono (zu B8).size)))
      by_cases hkn : k < n
      ·have l1 : (k : Int) < (n : Int) := by omega
       have l0 : (0 : Int) ≤ (k : Int) := by omega
       have lz : decide ((k : Int) < (n : Int)) = true := decide_eq_true l1
       have hx := ptAt_some (L := P) (i := k) (by rw [zu HLN]; exact hkn)
       have nx := (zu HNR).at (i := k) (by rw [zu HLN]; exact hkn)
       have fe := zu HFE k
       obtain ⟨⟨x, y⟩, hxy⟩ : ∃ q, ptAt P k = q := ⟨_, rfl⟩
       rw [hxy] at hx nx fe
       obtain ⟨n1, n2, n3, n4⟩ := nx
       simp only at n1 n2 n3 n4
       obtain ⟨c0, c1⟩ := pts_at K9.ints hx
       have d0 := (zu R17).cell (m := 0) rfl
       have d1 := (zu R17).cell (m := 1) rfl
       have e0 := (zu R18).cell (m := 0) rfl
       have e1 := (zu R18).cell (m := 1) rfl
       rw [← hs.cell] at c0 c1 d0 d1 e0 e1
       have m1 := mulB (x := vx - ux) (y := y - uy) (a := 400) (b := 400) (by omega) (by omega) (by omega) (by omega)
       have m2 := mulB (x := vy - uy) (y := x - ux) (a := 400) (b := 400) (by omega) (by omega) (by omega) (by omega)
       have w4 : IntKind.i64.wrap (y - uy) = y - uy := wr64 (by omega) (by omega)
       have w5 : IntKind.i64.wrap (x - ux) = x - ux := wr64 (by omega) (by omega)
       have w6 : IntKind.i64.wrap ((vx - ux) * (y - uy)) = (vx - ux) * (y - uy) := wr64 (by omega) (by omega)
       have w7 : IntKind.i64.wrap ((vy - uy) * (x - ux)) = (vy - uy) * (x - ux) := wr64 (by omega) (by omega)
       have w8 : IntKind.i64.wrap ((vx - ux) * (y - uy) - (vy - uy) * (x - ux)) = f k := (wr64 (by omega) (by omega)).trans fe
       have w9 : IntKind.i64.wrap ((k : Int) + 1) = (k : Int) + 1 := wr64 (by omega) (by omega)
       clear hs hx hxy m1 m2 fe K9
       go_wp2_with fail
       go_quiet (fail)
       go_wp2_with fail
       go_roundw
       case rel =>
        first | exact ⟨k + 1, by simp, hkn, by rw [zu HMS], sameDn (zu HS) _⟩ | ((repeat apply Exists.intro); refine ⟨?_, rfl⟩; exact ⟨k + 1, by simp, hkn, by rw [zu HMS], sameDn (zu HS) _⟩)
       case measure => first | (simp only [intOf]; omega) | (simp [intOf]; omega)
      ·have ek : k = n := by omega
       have l1 : ¬ (k : Int) < (n : Int) := by omega
       have lz : decide ((k : Int) < (n : Int)) = false := decide_eq_false l1
       have hmx := zu HMX n (Nat.le_refl _)
       have zw := zu HZWi
       have hfb : ∀ j, j < n → f j ≤ 320000 := fun j hj => by
        have := side_bd2 (zu HNU) (zu HNV) ((zu HNR).at (i := j) (by rw [zu HLN]; exact hj))
        rw [zu HFE] at this
        omega
       have hgb : 0 ≤ g n ∧ g n ≤ 320000 := by
        refine ⟨hmx.1, ?_⟩
        rcases hmx.2.2 with h0 | ⟨j, h1, h2⟩
        ·omega
        ·rw [h2]; exact hfb j h1
       obtain ⟨zn, zd⟩ := zu HZO
       simp only at zn zd
       rw [ek]
       generalize g n = fr at *
       obtain ⟨dd, hdd⟩ : ∃ dd, (vx - ux) * (vx - ux) + (vy - uy) * (vy - uy) = dd := ⟨_, rfl⟩
       have hsq : sqd (ux, uy) (vx, vy) = dd := by rw [← hdd]; unfold sqd; simp only; grind
       rw [hsq] at zw
       have m1 := mulB (x := vx - ux) (y := vx - ux) (a := 400) (b := 400) (by omega) (by omega) (by omega) (by omega)
       have m2 := mulB (x := vy - uy) (y := vy - uy) (a := 400) (b := 400) (by omega) (by omega) (by omega) (by omega)
       have w4 : IntKind.i64.wrap ((vx - ux) * (vx - ux)) = (vx - ux) * (vx - ux) := wr64 (by omega) (by omega)
       have w5 : IntKind.i64.wrap ((vy - uy) * (vy - uy)) = (vy - uy) * (vy - uy) := wr64 (by omega) (by omega)
       have w6 : IntKind.i64.wrap ((vx - ux) * (vx - ux) + (vy - uy) * (vy - uy)) = dd := (wr64 (by omega) (by omega)).trans hdd
       have hddb : -320000 ≤ dd ∧ dd ≤ 320000 := by omega
       have m3 := mulB (x := fr) (y := fr) (a := 320000) (b := 320000) (by omega) (by omega) (by omega) (by omega)
       obtain ⟨ff, hff⟩ : ∃ ff, fr * fr = ff := ⟨_, rfl⟩
       rw [hff] at m3 zw
       have w7 : IntKind.i64.wrap (fr * fr) = ff := by rw [hff]; exact wr64 (by omega) (by omega)
       have m4 := mulB (x := ff) (y := zD) (a := 102400000000) (b := 320000) (by omega) (by omega) (by omega) (by omega)
       have m5 := mulB (x := zN) (y := dd) (a := 102400000000) (b := 320000) (by omega) (by omega) (by omega) (by omega)
       obtain ⟨fz, hfz⟩ : ∃ q, ff * zD = q := ⟨_, rfl⟩
       obtain ⟨nd, hnd⟩ : ∃ q, zN * dd = q := ⟨_, rfl⟩
       rw [hfz] at m4 zw
       rw [hnd] at m5 zw
       have w8 : IntKind.i64.wrap (ff * zD) = fz := by rw [hfz]; exact wr64 (by omega) (by omega)
       have w9 : IntKind.i64.wrap (zN * dd) = nd := by rw [hnd]; exact wr64 (by omega) (by omega)
       have kf : ¬ fz < nd := by omega
       have kfz : decide (fz < nd) = false := decide_eq_false kf
       have d0 := (zu R17).cell (m := 0) rfl
       have d1 := (zu R17).cell (m := 1) rfl
       have e0 := (zu R18).cell (m := 0) rfl
       have e1 := (zu R18).cell (m := 1) rfl
       have f3 := (((zu R6d).bel (zu B9))).cell (m := 3) rfl
       have f4 := (((zu R6d).bel (zu B9))).cell (m := 4) rfl
       rw [← hs.cell] at d0 d1 e0 e1 f3 f4
       have BX : Hid (Below W8.heap.size W8 wr) := hide ((zu B9).trans hs.bel)
       clear hs HS K9 hmx zw hfb hgb hdd hsq m1 m2 hddb m3 hff m4 m5 hfz hnd zn zd HFE HFP HMX HMS HM0 HZWi
       go_wp2_with fail
       go_roundw
       case rel =>
        first | exact ⟨i + 1, by simp, him, zu BX⟩ | ((repeat apply Exists.intro); refine ⟨?_, rfl⟩; exact ⟨i + 1, by simp, him, zu BX⟩)
       case measure => first | (simp only [intOf]; omega) | (simp [intOf]; omega)
    ·have hst : (¬ (i : Int) < (m : Int) ∧ ¬ (i : Int) < (m : Int) ∧ decide ((i : Int) < (m : Int)) = false) ∨ ((i : Int) < (m : Int) ∧ ¬ (2 : Int) < (m : Int) ∧ decide ((i : Int) < (m : Int)) = true) := by
      by_cases h1 : i < m
      ·exact .inr ⟨by omega, by omega, decide_eq_true (by omega)⟩
      ·exact .inl ⟨by omega, by omega, decide_eq_false (by omega)⟩
     have B10 := hide (bc (zu B8) (zu HW))
     clear R6d B8 HW HHI HHM HHN HSI HZW HZO hg1 hg2 hc1 hc2
     generalize wr = W10 at *
     have K10 := hide ((zu HK).bel (zu B10))
     obtain ⟨L, hL⟩ : ∃ L, tolL P (smc 3 P []) = L := ⟨_, rfl⟩
     have hl3 := tol_len P (smc 3 P [])
     have hl0 : 1 ≤ (tolL P (smc 3 P [])).length := tol_some (zu HK).ne
     have HOR : Hid (∀ i ∈ tolL P (smc 3 P []), i < n ∧ apt (smc 3 P []) (ptAt P i) = (smc 3 P []).N) := hide (fun i hi => by
      obtain ⟨a0, a1, _⟩ := rimL_mem.1 (tol_rim i hi)
      exact ⟨by rw [← zu HLN]; exact a0, a1⟩)
     have HHA : Hid (∀ q ∈ P, apt (smc 3 P []) q ≤ (smc 3 P []).N) := hide (ring_has (zu HK).ne)
     have HKE : Hid (∀ p, apt (smc 3 P []) p ≤ (smc 3 P []).N → smc 3 (P ++ [p]) [] = smc 3 P []) := hide (fun p h => ring_keep (zu HK).ne h)
     have HNS : Hid (NrS ((smc 3 P []).X, (smc 3 P []).Y, (smc 3 P []).D)) := hide (smc_nr 3 P [] rfl trivial (fea_any P) (zu HNR) (fun p hp => (nomatch hp))).1
     have HRP := hide (fun X (hX : Below W1.heap.size W1 X) => ((zu HK).bel hX).rp)
     have HRM := hide (fun X (hX : Below W1.heap.size W1 X) => ((zu HK).bel hX).rm)
     unfold rgA at HRP HRM
     rw [hL] at hl3 hl0 HOR HRP HRM
     obtain ⟨cc, hcc⟩ : ∃ cc, smc 3 P [] = cc := ⟨_, rfl⟩
     rw [hcc] at HOR HHA HKE HNS HRP HRM
     have HAW := hide (fun (p : Pt) (X : World) (hp : Nr1 p) => away_any (L.length : Int) (nth L 0) (nth L 1) (nth L 2) cc p X (zu HNS) hp)
     obtain ⟨X, Y, D, N⟩ := cc
     have HON : Hid (∀ k, k < L.length → ∃ j : Nat, nth L k = (j : Int) ∧ j ∈ L) := hide (nth_mem L)
     obtain ⟨lc, hlc⟩ : ∃ lc, L.length = lc := ⟨_, rfl⟩
     rw [hlc] at hl3 hl0 HRP HRM HAW HON
     obtain ⟨o0, ho0⟩ : ∃ q, nth L 0 = q := ⟨_, rfl⟩
     obtain ⟨o1, ho1⟩ : ∃ q, nth L 1 = q := ⟨_, rfl⟩
     obtain ⟨o2, ho2⟩ : ∃ q, nth L 2 = q := ⟨_, rfl⟩
     rw [ho0, ho1, ho2] at HRP HRM HAW
     have HOO : Hid (∀ k, k < 3 → gt [o0, o1, o2] k = nth L k) := hide (lt3 (Q := fun k => gt [o0, o1, o2] k = nth L k) ho0.symm ho1.symm ho2.symm)
     unfold rgV at HRP HRM HAW
     simp only at HRP HRM HAW HOR HHA
     have q1 : ¬ (lc : Int) < 1 := by omega
     have q2 : ¬ (3 : Int) < (lc : Int) := by omega
     have q1' : decide ((lc : Int) < 1) = false := decide_eq_false q1
     have q2' : decide ((3 : Int) < (lc : Int)) = false := decide_eq_false q2
     have q3 : ((n : Int) == 200) = false := beq_eq_false_iff_ne.2 (by omega)
     have q4 : ¬ (n : Int) = 200 := by omega
     clear hL hcc hlc ho0 ho1 ho2
     rcases hst with ⟨h1, h2, h3⟩ | ⟨h1, h2, h3⟩
     all_goals
      go_wp2_with fail
      refine (zu HRP _ (zu B10)).mono ?_
      rintro e W11 ⟨rfl, hb11⟩
      have hA22 : Below W11.heap.size W11 (W11.alloc (.cells #[.int .i64 (lc : Int), .int .i64 o0, .int .i64 o1, .int .i64 o2, .int .i64 X, .int .i64 Y, .int .i64 D, .int .i64 N] 34)) := ba (Below.refl _ _) _
      have R22 := hide (cb_new W11 34 [.int .i64 (lc : Int), .int .i64 o0, .int .i64 o1, .int .i64 o2, .int .i64 X, .int .i64 Y, .int .i64 D, .int .i64 N] W11.heap.size rfl)
      have B11 := hide (bc (zu B10) (bc hb11 hA22))
      clear hb11 hA22
      go_upto_region 31 with fail
      generalize W11.alloc (.cells #[.int .i64 (lc : Int), .int .i64 o0, .int .i64 o1, .int .i64 o2, .int .i64 X, .int .i64 Y, .int .i64 D, .int .i64 N] 34) = W12 at *
      generalize W11.heap.size = g22 at *
      go_wp2_with fail
      refine (zu HRM _ (zu B11)).mono ?_
      rintro e W13 ⟨rfl, hb13⟩
      have hA24 : Below W13.heap.size W13 (W13.alloc (.cells #[.int .i64 (lc : Int), .int .i64 o0, .int .i64 o1, .int .i64 o2, .int .i64 X, .int .i64 Y, .int .i64 D, .int .i64 N] 34)) := ba (Below.refl _ _) _
      have R24 := hide (cb_new W13 34 [.int .i64 (lc : Int), .int .i64 o0, .int .i64 o1, .int .i64 o2, .int .i64 X, .int .i64 Y, .int .i64 D, .int .i64 N] W13.heap.size rfl)
      have R22a := hide (((zu R22).bel hb13).bel hA24)
      have B13 := hide (bc (zu B11) (bc hb13 hA24))
      clear hb13 hA24 R22 B11
      go_upto_region 32 with fail
      generalize W13.alloc (.cells #[.int .i64 (lc : Int), .int .i64 o0, .int .i64 o1, .int .i64 o2, .int .i64 X, .int .i64 Y, .int .i64 D, .int .i64 N] 34) = W14 at *
      generalize W13.heap.size = g24 at *
      have v0 := (zu R22a).cell (m := 0) rfl
      have v1 := (zu R22a).cell (m := 1) rfl
      have v2 := (zu R22a).cell (m := 2) rfl
      have v3 := (zu R22a).cell (m := 3) rfl
      have v4 := (zu R22a).cell (m := 4) rfl
      have v5 := (zu R22a).cell (m := 5) rfl
      have v6 := (zu R22a).cell (m := 6) rfl
      have v7 := (zu R22a).cell (m := 7) rfl
      have x0 := (zu R24).cell (m := 0) rfl
      have x1 := (zu R24).cell (m := 1) rfl
      have x2 := (zu R24).cell (m := 2) rfl
      have x3 := (zu R24).cell (m := 3) rfl
      have x4 := (zu R24).cell (m := 4) rfl
      have x5 := (zu R24).cell (m := 5) rfl
      have x6 := (zu R24).cell (m := 6) rfl
      have x7 := (zu R24).cell (m := 7) rfl
      have hA26 : Below W14.heap.size W14 (W14.alloc (.cells #[.int .i64 o0, .int .i64 o1, .int .i64 o2] 3)) := ba (Below.refl _ _) _
      have R26 : Hid (iblk (W14.alloc (.cells #[.int .i64 o0, .int .i64 o1, .int .i64 o2] 3)) W14.heap.size 3 [o0, o1, o2]) := hide (iblk_new W14 3 [o0, o1, o2])
      have R22b := hide ((zu R22a).bel hA26)
      have B14 := hide (bc (zu B13) hA26)
      clear hA26 R22a R24 B13
      go_upto_region 35 with fail
      clear v0 v1 v2 v3 v4 v5 v6 v7 x0 x1 x2 x3 x4 x5 x6 x7
      generalize W14.alloc (.cells #[.int .i64 o0, .int .i64 o1, .int .i64 o2] 3) = W15 at *
      generalize W14.heap.size = g26 at *
      have K15 := hide ((zu HK).bel (zu B14))
      have nn : (N != N) = false := by simp
      go_wp2_with fail
      go_loopw [27] (fun z X' => ∃ i : Nat, z = .int .i64 (i : Int) ∧ i ≤ lc ∧ Below W15.heap.size W15 X') (fun z _ => lc - (intOf z).toNat)
      case atStart => exact ⟨0, rfl, Nat.zero_le _, Below.refl _ _⟩
      case round =>
       obtain ⟨i, rfl, hi, hw⟩ := hrel
       have HW := hide hw
       clear hw
       have RR := hide ((zu R22b).bel (zu HW))
       by_cases hil : i < lc
       ·have j1 : (i : Int) < (lc : Int) := by omega
        have j0 : (0 : Int) ≤ (i : Int) := by omega
        have jz : decide ((i : Int) < (lc : Int)) = true := decide_eq_true j1
        obtain ⟨j, hj, hjL⟩ := zu HON i hil
        obtain ⟨hjn, hjN⟩ := zu HOR j hjL
        have hx := ptAt_some (L := P) (i := j) (by rw [zu HLN]; exact hjn)
        have haw := fun Xw => zu HAW (ptAt P j) Xw ((zu HNR).at (by rw [zu HLN]; exact hjn))
        rw [hjN] at haw
        obtain ⟨⟨x, y⟩, hxy⟩ : ∃ q, ptAt P j = q := ⟨_, rfl⟩
        rw [hxy] at hx haw
        obtain ⟨c0, c1⟩ := pts_at ((zu K15).bel (zu HW)).ints hx
        have ci : Hid (wr.cell? ⟨g26, i, none⟩ = some (.int .i64 (j : Int))) := hide (((zu R26).bel (zu HW)).cell (m := i) (by rw [← hj, ← zu HOO i (by omega)]; exact gtk_some (by simp; omega)))
        have C0 := hide c0
        have C1 := hide c1
        have HAWj := hide haw
        have v0 := (zu RR).cell (m := 0) rfl
        have w9 : IntKind.i64.wrap ((i : Int) + 1) = (i : Int) + 1 := wr64 (by omega) (by omega)
        clear hj hjL hjN hx haw hxy c0 c1
        go_wp2_with fail
        refine Go.Code.wp_mono (Only.to (fun _ _ h => h)) (fz38 (r := N) ci C0 C1 (hide ((zu RR).cell (m := 0) rfl)) (hide ((zu RR).cell (m := 1) rfl)) (hide ((zu RR).cell (m := 2) rfl)) (hide ((zu RR).cell (m := 3) rfl)) (hide ((zu RR).cell (m := 4) rfl)) (hide ((zu RR).cell (m := 5) rfl)) (hide ((zu RR).cell (m := 6) rfl)) (hide ((zu RR).cell (m := 7) rfl)) (hide (by omega)) (hide hjn) (hide fun Xw _ => zu HAWj Xw) (fun Wy hBy => ?_))
        have BY := hide (bc (zu HW) hBy)
        clear hBy v0
        go_wp2_with fail
        go_roundw
        case rel =>
         first | exact ⟨i + 1, by simp, hil, zu BY⟩ | ((repeat apply Exists.intro); refine ⟨?_, rfl⟩; exact ⟨i + 1, by simp, hil, zu BY⟩)
        case measure => first | (simp only [intOf]; omega) | (simp [intOf]; omega)
       ·have j1 : ¬ (i : Int) < (lc : Int) := by omega
        have jz : decide ((i : Int) < (lc : Int)) = false := decide_eq_false j1
        have v0 := (zu RR).cell (m := 0) rfl
        have B16 := hide (bc (zu B14) (zu HW))
        clear HW R26 R22b K15 B14 HON HOR HOO
        generalize wr = W16 at *
        have K16 := hide ((zu HK).bel (zu B16))
        go_wp2_with fail
        clear v0
        go_loopw [28] (fun z X' => ∃ i : Nat, z = .int .i64 (i : Int) ∧ i ≤ n ∧ Below W16.heap.size W16 X') (fun z _ => n - (intOf z).toNat)
        case atStart => exact ⟨0, rfl, Nat.zero_le _, Below.refl _ _⟩
        case round =>
         obtain ⟨k, rfl, hk, hw⟩ := hrel
         have HW := hide hw
         clear hw
         have RS := hide ((zu RR).bel (zu HW))
         by_cases hkn : k < n
         ·have l1 : (k : Int) < (n : Int) := by omega
          have l0 : (0 : Int) ≤ (k : Int) := by omega
          have lz : decide ((k : Int) < (n : Int)) = true := decide_eq_true l1
          have hx := ptAt_some (L := P) (i := k) (by rw [zu HLN]; exact hkn)
          have haw := fun Xw => zu HAW (ptAt P k) Xw ((zu HNR).at (by rw [zu HLN]; exact hkn))
          have hle := zu HHA (ptAt P k) (ptAt_mem (by rw [zu HLN]; exact hkn))
          obtain ⟨⟨x, y⟩, hxy⟩ : ∃ q, ptAt P k = q := ⟨_, rfl⟩
          rw [hxy] at hx haw hle
          obtain ⟨r, hr⟩ : ∃ r, apt ⟨X, Y, D, N⟩ (x, y) = r := ⟨_, rfl⟩
          rw [hr] at haw hle
          have r1 : ¬ N < r := by omega
          have r2 : decide (N < r) = false := decide_eq_false r1
          obtain ⟨c0, c1⟩ := pts_at ((zu K16).bel (zu HW)).ints hx
          have C0 := hide c0
          have C1 := hide c1
          have HAWk := hide haw
          have w9 : IntKind.i64.wrap ((k : Int) + 1) = (k : Int) + 1 := wr64 (by omega) (by omega)
          clear hx haw hle hxy c0 c1 hr
          go_wp2_with fail
          refine Go.Code.wp_mono (Only.to (fun _ _ h => h)) (fz43 (r := r) C0 C1 (hide ((zu RS).cell (m := 0) rfl)) (hide ((zu RS).cell (m := 1) rfl)) (hide ((zu RS).cell (m := 2) rfl)) (hide ((zu RS).cell (m := 3) rfl)) (hide ((zu RS).cell (m := 4) rfl)) (hide ((zu RS).cell (m := 5) rfl)) (hide ((zu RS).cell (m := 6) rfl)) (hide ((zu RS).cell (m := 7) rfl)) (hide hkn) (hide fun Xw _ => zu HAWk Xw) (fun Wy hBy => ?_))
          have BY := hide (bc (zu HW) hBy)
          clear hBy
          go_wp2_with fail
          go_roundw
          case rel =>
           first | exact ⟨k + 1, by simp, hkn, zu BY⟩ | ((repeat apply Exists.intro); refine ⟨?_, rfl⟩; exact ⟨k + 1, by simp, hkn, zu BY⟩)
          case measure => first | (simp only [intOf]; omega) | (simp [intOf]; omega)
         ·have l1 : ¬ (k : Int) < (n : Int) := by omega
          have lz : decide ((k : Int) < (n : Int)) = false := decide_eq_false l1
          have B17 := hide (bc (zu B16) (zu HW))
          have K17 := hide ((zu HK).bel (zu B17))
          have BW17 := hide (bc (zu HB1) (zu B17))
          clear HW RR B16 K16 HHA
          generalize wr = W17 at *
          go_wp2_with fail
          refine (zu HAT 0 (n : Int) _ (zu BW17) (by omega) (by omega)).mono ?_
          rintro e W18 ⟨r1, rfl, r10, r11, hb18⟩
          obtain ⟨e1, rfl⟩ := Int.eq_ofNat_of_zero_le r10
          have he1 : e1 < n := by omega
          have hx1 := ptAt_some (L := P) (i := e1) (by rw [zu HLN]; exact he1)
          have nx1 := (zu HNR).at (i := e1) (by rw [zu HLN]; exact he1)
          obtain ⟨⟨x1, y1⟩, hxy1⟩ : ∃ q, ptAt P e1 = q := ⟨_, rfl⟩
          rw [hxy1] at hx1 nx1
          have K18 := hide ((zu K17).bel hb18)
          obtain ⟨c0, c1⟩ := pts_at (zu K18).ints hx1
          have hA29 : Below W18.heap.size W18 (W18.alloc (.cells #[.int .i64 x1, .int .i64 y1] 30)) := ba (Below.refl _ _) _
          have R29 := hide (cb_new W18 30 [.int .i64 x1, .int .i64 y1] W18.heap.size rfl)
          have RT := hide (((zu RS).bel hb18).bel hA29)
          have B18 := hide (bc (zu B17) (bc hb18 hA29))
          have BW18 := hide (bc (zu BW17) (bc hb18 hA29))
          have HN1 := hide nx1
          clear hb18 hA29 hx1 nx1 hxy1 K17 K18 B17 BW17 RS
          go_upto_region 48 with fail
          clear c0 c1
          generalize W18.alloc (.cells #[.int .i64 x1, .int .i64 y1] 30) = W19 at *
          generalize W18.heap.size = g29 at *
          have K19 := hide ((zu HK).bel (zu B18))
          go_wp2_with fail
          refine (zu HAT 1 (n : Int) _ (zu BW18) (by omega) (by omega)).mono ?_
          rintro e W20 ⟨r2, rfl, r20, r21, hb20⟩
          obtain ⟨e2, rfl⟩ := Int.eq_ofNat_of_zero_le r20
          have he2 : e2 < n := by omega
          have hx2 := ptAt_some (L := P) (i := e2) (by rw [zu HLN]; exact he2)
          have nx2 := (zu HNR).at (i := e2) (by rw [zu HLN]; exact he2)
          obtain ⟨⟨x2, y2⟩, hxy2⟩ : ∃ q, ptAt P e2 = q := ⟨_, rfl⟩
          rw [hxy2] at hx2 nx2
          have K20 := hide ((zu K19).bel hb20)
          obtain ⟨c0, c1⟩ := pts_at (zu K20).ints hx2
          have hA30 : Below W20.heap.size W20 (W20.alloc (.cells #[.int .i64 x2, .int .i64 y2] 30)) := ba (Below.refl _ _) _
          have R30 := hide (cb_new W20 30 [.int .i64 x2, .int .i64 y2] W20.heap.size rfl)
          have R29a := hide (((zu R29).bel hb20).bel hA30)
          have RU := hide (((zu RT).bel hb20).bel hA30)
          have B20 := hide (bc (zu B18) (bc hb20 hA30))
          have BW20 := hide (bc (zu BW18) (bc hb20 hA30))
          have HN2 := hide nx2
          clear hb20 hA30 hx2 nx2 hxy2 K19 K20 B18 BW18 RT R29
          go_upto_region 49 with fail
          clear c0 c1
          generalize W20.alloc (.cells #[.int .i64 x2, .int .i64 y2] 30) = W21 at *
          generalize W20.heap.size = g30 at *
          have K21 := hide ((zu HK).bel (zu B20))
          have hb1' := zu HN1
          have hb2' := zu HN2
          obtain ⟨a1, a2, a3, a4⟩ := hb1'
          obtain ⟨b1, b2, b3, b4⟩ := hb2'
          simp only at a1 a2 a3 a4 b1 b2 b3 b4
          have mb1 := half_bd (s := x1 + x2) (by omega) (by omega)
          have mb2 := half_bd (s := y1 + y2) (by omega) (by omega)
          obtain ⟨mx, hmx⟩ : ∃ mx, (x1 + x2).tdiv 2 = mx := ⟨_, rfl⟩
          obtain ⟨my, hmy⟩ : ∃ my, (y1 + y2).tdiv 2 = my := ⟨_, rfl⟩
          rw [hmx] at mb1
          rw [hmy] at mb2
          have hmid : Nr1 (mx, my) := ⟨mb1.1, mb1.2, mb2.1, mb2.2⟩
          have u1 : IntKind.i64.wrap (x1 + x2) = x1 + x2 := wr64 (by omega) (by omega)
          have u2 : IntKind.i64.wrap (y1 + y2) = y1 + y2 := wr64 (by omega) (by omega)
          have u3 : IntKind.i64.wrap mx = mx := wr64 (by omega) (by omega)
          have u4 : IntKind.i64.wrap my = my := wr64 (by omega) (by omega)
          obtain ⟨s0, s1, s2, s3, hmore⟩ := (zu K21).more hmid
          obtain ⟨c2, hc2⟩ : ∃ c2, smc 3 (P ++ [(mx, my)]) [] = c2 := ⟨_, rfl⟩
          rw [hc2] at hmore
          have HKEm := hide (zu HKE (mx, my))
          rw [hc2] at HKEm
          have HAWm := hide (fun Xw => zu HAW (mx, my) Xw hmid)
          obtain ⟨rm, hrm⟩ : ∃ r, apt ⟨X, Y, D, N⟩ (mx, my) = r := ⟨_, rfl⟩
          rw [hrm] at HAWm HKEm
          have HMO := hide hmore
          obtain ⟨X2, Y2, D2, N2⟩ := c2
          simp only at HMO HKEm HAWm
          have HMX := hide hmx
          have HMY := hide hmy
          clear hmore hmx hmy hc2 hrm HAW HKE
          refine Go.Code.wp_mono (Only.to (fun _ _ h => h)) (fz49 (F := flat2 P) (sx := x1 + x2) (sy := y1 + y2) (mx := mx) (my := my) (t0 := s0) (t1 := s1) (t2 := s2) (t3 := s3) (X := X2) (Y := Y2) (D := D2) (N := N2) (zu K21).lt (by omega) (hide (zu K21).ints) (hide (by rw [flat2_len, zu HLN])) (hide ((zu R29a).cell (m := 0) rfl)) (hide ((zu R29a).cell (m := 1) rfl)) (hide ((zu R30).cell (m := 0) rfl)) (hide ((zu R30).cell (m := 1) rfl)) (hide u1) (hide ⟨zu HMX, u3⟩) (hide u2) (hide ⟨zu HMY, u4⟩) (hide fun Xw v hX hr => zu HMO Xw v _ hr) (fun n0 n16 n22 r2 r17 Wa hBa v22 _ => ?_))
          have RV := hide ((zu RU).bel hBa)
          have d0 := ((zu R29a).bel hBa).cell (m := 0) rfl
          have d1 := ((zu R29a).bel hBa).cell (m := 1) rfl
          have d2 := ((zu R30).bel hBa).cell (m := 0) rfl
          have d3 := ((zu R30).bel hBa).cell (m := 1) rfl
          have BWa := hide (bc (zu BW20) hBa)
          have R31 := hide v22
          have hmx := zu HMX
          have hmy := zu HMY
          clear hBa v22 RU R29a R30 K21 B20 BW20
          have hA33 : Below Wa.heap.size Wa (Wa.alloc (.cells #[.int .i64 mx, .int .i64 my] 30)) := ba (Below.refl _ _) _
          have R33 := hide (cb_new Wa 30 [.int .i64 mx, .int .i64 my] Wa.heap.size rfl)
          have RW := hide ((zu RV).bel hA33)
          have R31a := hide ((zu R31).bel hA33)
          have BWb := hide (bc (zu BWa) hA33)
          clear hA33 RV R31 BWa
          go_upto_region 51 with fail
          clear d0 d1 d2 d3 hmx hmy
          generalize Wa.alloc (.cells #[.int .i64 mx, .int .i64 my] 30) = Wb at *
          generalize Wa.heap.size = g33 at *
          by_cases hlt : N < rm
          ·refine Go.Code.wp_mono (Only.to (fun _ _ h => h)) (fz51a (t0 := 0) (t1 := 0) (t2 := 0) (t3 := 0) (x := mx) (y := my) (r := rm) hlt (hide ((zu RW).cell (m := 0) rfl)) (hide ((zu RW).cell (m := 1) rfl)) (hide ((zu RW).cell (m := 2) rfl)) (hide ((zu RW).cell (m := 3) rfl)) (hide ((zu RW).cell (m := 4) rfl)) (hide ((zu RW).cell (m := 5) rfl)) (hide ((zu RW).cell (m := 6) rfl)) (hide ((zu RW).cell (m := 7) rfl)) (hide ((zu R33).cell (m := 0) rfl)) (hide ((zu R33).cell (m := 1) rfl)) (hide fun Xw _ => zu HAWm Xw) (fun Wc hBc => ?_))
           have BWc := hide (bc (zu BWb) hBc)
           clear hBc
           go_wp2_with fail
           go_ret
           exact ⟨rfl, zu BWc⟩
          ·have hce := zu HKEm (by omega)
           cases hce
           refine Go.Code.wp_mono (Only.to (fun _ _ h => h)) (fz51b (x := mx) (y := my) (r := rm) hlt (hide ((zu RW).cell (m := 0) rfl)) (hide ((zu RW).cell (m := 1) rfl)) (hide ((zu RW).cell (m := 2) rfl)) (hide ((zu RW).cell (m := 3) rfl)) (hide ((zu RW).cell (m := 4) rfl)) (hide ((zu RW).cell (m := 5) rfl)) (hide ((zu RW).cell (m := 6) rfl)) (hide ((zu RW).cell (m := 7) rfl)) (hide ((zu R31a).cell (m := 0) rfl)) (hide ((zu R31a).cell (m := 1) rfl)) (hide ((zu R31a).cell (m := 2) rfl)) (hide ((zu R31a).cell (m := 3) rfl)) (hide ((zu R31a).cell (m := 4) rfl)) (hide ((zu R31a).cell (m := 5) rfl)) (hide ((zu R31a).cell (m := 6) rfl)) (hide ((zu R31a).cell (m := 7) rfl)) (hide ((zu R33).cell (m := 0) rfl)) (hide ((zu R33).cell (m := 1) rfl)) (hide fun Xw _ => zu HAWm Xw) (fun Wc hBc => ?_))
           have BWc := hide (bc (zu BWb) hBc)
           clear hBc
           go_wp2_with fail
           go_ret
           exact ⟨rfl, zu BWc⟩
end Go.Proofs.Ytdcecfgmfmpeeaa
