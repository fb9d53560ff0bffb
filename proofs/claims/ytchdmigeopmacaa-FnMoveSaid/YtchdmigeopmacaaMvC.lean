/-
  A drawn sketch's moves: what the law FnMove asks holds of every right sketch.
-/
import Derived.Test.YtchdmigeopmacaaKpo
import Derived.Test.YtchdmigeopmacaaMoveW
import Derived.Test.YtchdmigeopmacaaMovePW
import Derived.Test.YtchdmigeopmacaaSkOfW
import Derived.Test.YtchdmigeopmacaaMv11
import Derived.Test.YtchdmigeopmacaaLawKit
import Derived.Deep.Cut
import Derived.Deep.CutRange
namespace Go.Proofs.Ytchdmigeopmacaa
open Go.ChangeShapes Go.WideShapes Go.ChangeAt Go.RowKit
set_option linter.unusedVariables false
set_option linter.unusedSimpArgs false

theorem toRus_flat (rs : List Ru) : toRus (flat4 rs) rs.length = rs := by
  apply List.ext_getElem?
  intro i
  unfold toRus
  by_cases hi : i < rs.length
  · rw [List.getElem?_map, List.getElem?_range hi, List.getElem?_eq_getElem hi]
    obtain ⟨h0, h1, h2, h3⟩ := flat4_at (List.getElem?_eq_getElem hi)
    have hg : ∀ (m : Nat) (x : Int), (flat4 rs)[m]? = some x → (flat4 rs).getD m 0 = x := fun m x hx => by rw [List.getD_eq_getElem?_getD, hx]; rfl
    simp only [Option.map_some, Option.some.injEq]
    rw [hg _ _ h0, hg _ _ h1, hg _ _ h2, hg _ _ h3]
  · rw [List.getElem?_eq_none (by simp; omega), List.getElem?_eq_none (by omega)]
theorem flat4_len4 (rs : List Ru) : (flat4 rs).length = rs.length * 4 := by
  induction rs with
  | nil => rfl
  | cons e rs ih => show (flat4 rs).length + 4 = (rs.length + 1) * 4; omega
theorem ext_rus (rs : List Ru) (k : Nat) (x y : Int) : toRus (flat4 rs ++ ext (k : Int) x y) (rs.length + 2) = rs ++ exR k x y := by
  rw [toRus_app _ _ _ _ (flat4_len4 rs), toRus_flat]
  rfl
theorem ints_of_rus {w : World} {p : Nat} {rs : List Ru} (h : RusAt w p 0 rs) : IntsAt w p 0 (flat4 rs) := by
  intro j x hj
  have hjl : j < rs.length * 4 := by rw [← flat4_len4]; exact (List.getElem?_eq_some_iff.1 hj).1
  have hi : j / 4 < rs.length := by omega
  obtain ⟨h0, h1, h2, h3⟩ := flat4_at (List.getElem?_eq_getElem hi)
  obtain ⟨c0, c1, c2, c3⟩ := h _ _ (List.getElem?_eq_getElem hi)
  have hm : j % 4 = 0 ∨ j % 4 = 1 ∨ j % 4 = 2 ∨ j % 4 = 3 := by omega
  rcases hm with e | e | e | e
  · have ej : j = j / 4 * 4 := by omega
    rw [ej, h0] at hj
    rw [ej, ← Option.some.inj hj]
    exact c0
  · have ej : j = j / 4 * 4 + 1 := by omega
    rw [ej, h1] at hj
    rw [ej, ← Option.some.inj hj]
    exact c1
  · have ej : j = j / 4 * 4 + 2 := by omega
    rw [ej, h2] at hj
    rw [ej, ← Option.some.inj hj]
    exact c2
  · have ej : j = j / 4 * 4 + 3 := by omega
    rw [ej, h3] at hj
    rw [ej, ← Option.some.inj hj]
    exact c3
theorem ext_len (rs : List Ru) (k : Nat) (x y : Int) : (flat4 rs ++ ext (k : Int) x y).length = (rs.length + 2) * 4 := by
  rw [List.length_append, flat4_len4]
  show rs.length * 4 + 8 = _
  omega
theorem moveM_all (N k : Nat) (x y : Int) (u : Option Addr) (p c : Nat) (rs : List Ru) (w : World) (hl : rs.length ≤ 60) (hp : p < w.heap.size) (hU : u = none ∧ rs.length = 0 ∧ c = 0 ∨ u = some ⟨p, 0, none⟩ ∧ RusAt w p 0 rs) :
    Calls Try.prog 17 #[skv (N : Int) u rs.length c, .int .i64 (k : Int), .agg #[.int .i64 x, .int .i64 y]] w fun e w' => ∃ v1 v2, e = .returned (.tuple #[v1, .int .i64 (outC (N : Int) (rs ++ exR k x y)), v2]) ∧ Below w.heap.size w w' := by
  have hI : IntsAt w p 0 (flat4 rs) := by
    rcases hU with ⟨_, h, _⟩ | ⟨_, h⟩
    · have : rs = [] := List.length_eq_zero_iff.1 h
      subst this
      intro j z hj
      cases hj
    · exact ints_of_rus h
  refine (moveM_wide (N : Int) (k : Int) x y u p rs.length c (flat4 rs) w (by omega) (hide (hU.elim .inl (fun h => .inr h.1))) (hide (flat4_len4 rs)) (hide hI) hp (hide fun W q cap hq hW => ?_)).mono ?_
  · refine (solveM_any (N : Int) (some ⟨q, 0, none⟩) q 0 (rs.length + 2) cap _ W (toRus_len _ _) (by omega) (fun _ => ⟨rfl, hq, rusAt_ints hW (ext_len rs k x y)⟩)).mono ?_
    rintro e w' ⟨v1, v2, h1, h2, h3, h4⟩
    exact ⟨⟨v1, v2, h1, h2, h3⟩, h4⟩
  · rintro e w' ⟨⟨v1, v2, h1, _, _⟩, h4⟩
    rw [ext_rus] at h1
    exact ⟨v1, v2, h1, h4⟩
theorem moveP_all (N k : Nat) (x y : Int) (u : Option Addr) (p c : Nat) (rs : List Ru) (w : World) (hok : skOk (N : Int) rs = true) (hp : p < w.heap.size) (hU : u = none ∧ rs.length = 0 ∧ c = 0 ∨ u = some ⟨p, 0, none⟩ ∧ RusAt w p 0 rs) :
    Calls Try.prog 16 #[skv (N : Int) u rs.length c, .int .i64 (k : Int), .agg #[.int .i64 x, .int .i64 y]] w fun e w' => ∃ v1 v2, e = .returned (.tuple #[v1, .int .i64 (outC (N : Int) (rs ++ exR k x y)), v2]) ∧ Sl w' v1 (outN (N : Int) (rs ++ exR k x y)) (outP (N : Int) (rs ++ exR k x y)) ∧ Sl w' v2 (outK (N : Int) (rs ++ exR k x y)).length (nats (outK (N : Int) (rs ++ exR k x y))) ∧ Below w.heap.size w w' := by
  obtain ⟨n1, n2, l1, hr⟩ := ok_parts hok
  have hI : IntsAt w p 0 (flat4 rs) := by
    rcases hU with ⟨_, h, _⟩ | ⟨_, h⟩
    · have : rs = [] := List.length_eq_zero_iff.1 h
      subst this
      intro j z hj
      cases hj
    · exact ints_of_rus h
  have hX : ∀ W, Below w.heap.size w W → rs.length ≠ 0 → u = some ⟨p, 0, none⟩ ∧ p < W.heap.size ∧ RusAt W p 0 rs := fun W hW h0 => hU.elim (fun h => absurd h.2.1 h0) (fun h => ⟨h.1, Nat.lt_of_lt_of_le hp hW.size, h.2.bel hW hp⟩)
  refine (moveP_wide (N : Int) (k : Int) x y u p rs.length c (outN (N : Int) (rs ++ exR k x y)) (flat4 rs) (outP (N : Int) (rs ++ exR k x y)) (outK (N : Int) (rs ++ exR k x y)) (outC (N : Int) (rs ++ exR k x y)) w l1 (hide (hU.elim .inl (fun h => .inr h.1))) (hide (flat4_len4 rs)) (hide hI) hp (hide fun W hW => ?_) (hide fun W q cap hq hW => ?_)).mono ?_
  · have := okP_any (N : Int) u p 0 rs.length c rs W (hide rfl) (by omega) (hide (hX W hW))
    rw [hok] at this
    exact this
  · refine (solveP_any (N : Int) (some ⟨q, 0, none⟩) q 0 (rs.length + 2) cap _ W (toRus_len _ _) (by omega) (fun _ => ⟨rfl, hq, rusAt_ints hW (ext_len rs k x y)⟩)).mono ?_
    rintro e w' ⟨v1, v2, h1, h2, h3, h4, h5⟩
    rw [ext_rus] at h1 h2 h3
    exact ⟨⟨v1, v2, h1, h2, h3, h4⟩, h5⟩
  · rintro e w' ⟨⟨v1, v2, h1, h2, h3, _⟩, h5⟩
    exact ⟨v1, v2, h1, h2.sl, h3.sl, h5⟩

theorem out_ok {N : Nat} {rs : List Ru} (hok : skOk (N : Int) rs = true) (hk : keptP N rs = true) : outC (N : Int) rs = 0 ∧ outN (N : Int) rs = N ∧ outP (N : Int) rs = ptsP (goP N rs).1 N ∧ outK (N : Int) rs = [] := by
  unfold outC outN outP outK
  rw [Int.toNat_natCast, if_pos hok, if_pos hk, if_pos hok, if_pos hk, if_pos hok, if_pos hk, if_pos hok, if_pos hk]
  exact ⟨rfl, rfl, rfl, rfl⟩
theorem out_zero {N : Nat} {rs : List Ru} (h : outC (N : Int) rs = 0) : skOk (N : Int) rs = true ∧ keptP N rs = true := by
  unfold outC at h
  rw [Int.toNat_natCast] at h
  split at h
  · rename_i h1
    split at h
    · rename_i h2
      exact ⟨h1, h2⟩
    · cases h
  · cases h

set_option maxHeartbeats 4000000 in
set_option maxRecDepth 100000 in
theorem fnMove_core (a : Option Addr) (len cap : Nat) (a2 : Option Addr) (len2 cap2 : Nat) (w : World) (hl : len ≤ 1048576) (hl2 : len2 ≤ 1048576)
    (HOF : Hid (∀ W, Below w.heap.size w W → Calls Try.prog 6 #[.slice a len cap] W fun e w' => ∃ (v : Value) (n : Int) (rs : List Ru), e = .returned v ∧ SkAtW w' v n rs ∧ Below W.heap.size W w'))
    (HAT : Hid (∀ W, Below w.heap.size w W → ∀ i n : Int, 0 ≤ i ∧ i ≤ 2 → 1 ≤ n ∧ n ≤ 1000 → Calls Try.prog 15 #[.slice a2 len2 cap2, .int .i64 i, .int .i64 n] W fun e w' => ∃ r : Int, e = .returned (.int .i64 r) ∧ 0 ≤ r ∧ r < n ∧ Below W.heap.size W w')) :
    Calls Try.prog 5 #[.slice a len cap, .slice a2 len2 cap2] w fun e w' => e = .returned (.bool true) ∧ Below w.heap.size w w' := by
  have hl1 : decide ((1048576 : Int) < (len : Int)) = false := decide_eq_false (by omega)
  have hl3 : decide ((1048576 : Int) < (len2 : Int)) = false := decide_eq_false (by omega)
  go_enter Try.func5, Try.ntmps5
  go_wp2_with fail
  refine (unhide HOF _ (Below.refl _ _)).mono ?_
  rintro e W1 ⟨v, n, rs, rfl, ⟨hok, u, c, p, rfl, hcap, hcm, hpl, hU⟩, hb1⟩
  obtain ⟨n1, n2, l1, hr⟩ := ok_parts hok
  obtain ⟨N, rfl⟩ : ∃ N : Nat, n = (N : Int) := ⟨n.toNat, by omega⟩
  have hX : ∀ W, Below W1.heap.size W1 W → p < W.heap.size ∧ (u = none ∧ rs.length = 0 ∧ c = 0 ∨ u = some ⟨p, 0, none⟩ ∧ RusAt W p 0 rs) := fun W hW => ⟨Nat.lt_of_lt_of_le hpl hW.size, hU.elim .inl (fun h => .inr ⟨h.1, h.2.bel hW hpl⟩)⟩
  have hY : ∀ W, Below W1.heap.size W1 W → rs.length ≠ 0 → u = some ⟨p, 0, none⟩ ∧ p < W.heap.size ∧ RusAt W p 0 rs := fun W hW h0 => (hX W hW).2.elim (fun h => absurd h.2.1 h0) (fun h => ⟨h.1, (hX W hW).1, h.2⟩)
  have HSM := hide (fun W (hW : Below W1.heap.size W1 W) => solveM_any (N : Int) u p 0 rs.length c rs W rfl (by omega) (hY W hW))
  have HMP := hide (fun W (hW : Below W1.heap.size W1 W) k x y => moveP_all N k x y u p c rs W hok (hX W hW).1 (hX W hW).2)
  have HMM := hide (fun W (hW : Below W1.heap.size W1 W) k x y => moveM_all N k x y u p c rs W l1 (hX W hW).1 (hX W hW).2)
  have HY := hide hY
  have HOK := hide hok
  have HR := hide hr
  have HB1 := hide hb1
  clear hX hU hb1 hY hok hr
  go_wp2_with fail
  refine (unhide HSM _ (ba (Below.refl _ _) _)).mono ?_
  rintro e W2 ⟨v1, v2, rfl, hs1, hs2, hb2⟩
  have a0 : W2.cell? ⟨W1.heap.size, 0, none⟩ = some (.int .i64 (N : Int)) := keep1 hb2 (by simp [go_sem])
  have a1 : W2.cell? ⟨W1.heap.size, 1, none⟩ = some (.slice u rs.length c) := keep1 hb2 (by simp [go_sem])
  have HB2 : Hid (Below W1.heap.size W1 W2) := hide (bc (ba (Below.refl _ _) _) hb2)
  obtain ⟨up, gp, cp, rfl, hat⟩ := hs1.at
  have HA := hide hat
  have lt2 := cell_lt a0
  clear hb2 hs1 hs2 hat HSM
  by_cases hC : outC (N : Int) rs = 0
  · obtain ⟨_, hkp⟩ := out_zero hC
    obtain ⟨_, oN, oP, _⟩ := out_ok (unhide HOK) hkp
    rw [oN, oP] at HA
    rw [oN]
    have HKP := hide hkp
    have HPL := hide (ptsP_len (goP N rs).1 N)
    have HBD := hide (fun (j : Nat) (hj : j < N * 2) => pts_bd (unhide HR) hkp hj)
    have HSAM := hide (fun (k : Nat) (hk : k < N) => move_same (by omega) (unhide HR) hkp hk)
    generalize hP : ptsP (goP N rs).1 N = P at *
    obtain ⟨hup, hgp, hints⟩ := unhide HA (by omega)
    subst hup
    have HI := hide hints
    clear hints HA oN oP hkp
    by_cases h60 : rs.length + 2 ≤ 60
    · have d60 : decide ((60 : Int) < (rs.length : Int) + 2) = false := decide_eq_false (by omega)
      go_wp2_with fail
      refine (unhide HAT _ (bc (unhide HB1) (unhide HB2)) 0 (N : Int) (by omega) (by omega)).mono ?_
      rintro e W3 ⟨r, rfl, r0, r1, hb3⟩
      obtain ⟨k, rfl⟩ := Int.eq_ofNat_of_zero_le r0
      have b0 := keep1 hb3 a0
      have b1 := keep1 hb3 a1
      have hkN : k < N := by omega
      have lt3 := cell_lt b0
      have hgp3 : gp < W3.heap.size := Nat.lt_of_lt_of_le hgp hb3.size
      have HI3 := hide ((unhide HI).below hb3 hgp)
      have cx : W3.cell? ⟨gp, k * 2, none⟩ = some (.int .i64 (gt P (k * 2))) := by have := unhide HI3 _ _ (gtk_some (show k * 2 < P.length by rw [unhide HPL]; omega)); rwa [Nat.zero_add] at this
      have cy : W3.cell? ⟨gp, k * 2 + 1, none⟩ = some (.int .i64 (gt P (k * 2 + 1))) := by have := unhide HI3 _ _ (gtk_some (show k * 2 + 1 < P.length by rw [unhide HPL]; omega)); rwa [Nat.zero_add] at this
      have bdx := unhide HBD (k * 2) (by omega)
      have bdy := unhide HBD (k * 2 + 1) (by omega)
      obtain ⟨sr, sk, sp⟩ := unhide HSAM k hkN
      have sok : skOk (N : Int) (rs ++ exR k (gt P (k * 2)) (gt P (k * 2 + 1))) = true := by
        unfold skOk
        rw [decide_eq_true (p := 1 ≤ (N : Int) ∧ (N : Int) ≤ 24) ⟨n1, n2⟩, decide_eq_true (p := (rs ++ exR k (gt P (k * 2)) (gt P (k * 2 + 1))).length ≤ 60) (by rw [List.length_append]; exact h60), Bool.true_and, Bool.true_and, List.all_eq_true]
        exact sr
      obtain ⟨mC, mN, mP, mK⟩ := out_ok sok sk
      rw [sp] at mP
      have HM1 := hide (fun W (hW : Below W1.heap.size W1 W) => unhide HMP W hW k (gt P (k * 2)) (gt P (k * 2 + 1)))
      rw [mC, mN, mP, mK] at HM1
      have HB3 : Hid (Below W1.heap.size W1 W3) := hide (bc (unhide HB2) hb3)
      generalize hx : gt P (k * 2) = x at *
      generalize hy : gt P (k * 2 + 1) = y at *
      clear hb3 a0 a1 HI HSAM sr sk sp sok mC mN mP mK
      go_wp2_with fail
      go_region_held3 (fun wx => wx.cell? ⟨W1.heap.size, 0, none⟩ = some (.int .i64 (N : Int)) ∧ wx.cell? ⟨W1.heap.size, 1, none⟩ = some (.slice u rs.length c) ∧ wx.cell? ⟨gp, k * 2, none⟩ = some (.int .i64 x) ∧ wx.cell? ⟨gp, k * 2 + 1, none⟩ = some (.int .i64 y))
        (simp (maxDischargeDepth := 12) [go_sem, le1, lt1, *])
        (first
        | (go_at_call 16; refine (unhide HM1 _ (by first | exact unhide HB3 | exact Below.drew (unhide HB3))).mono ?_; rintro e W4 ⟨q1, q2, rfl, hq1, hq2, hb4⟩; have HB4 : Hid (Below W3.heap.size W3 W4) := hide (by first | exact hb4 | exact bc (Below.drew (Below.refl _ _)) hb4); have HQ1 := hide hq1; have HQ2 := hide hq2; have e0 := keep1 (unhide HB4) b0; have e1 := keep1 (unhide HB4) b1; have cx4 := keep1 (unhide HB4) cx; have cy4 := keep1 (unhide HB4) cy; clear hb4 hq1 hq2))
      obtain ⟨uq, gq, cq, rfl, hatq⟩ := (unhide HQ1).at
      obtain ⟨hug, hgq, hiq⟩ := hatq (by omega)
      subst hug
      obtain ⟨uk, ck, rfl, _⟩ := unhide HQ2
      have HI4 := hide ((unhide HI3).below (unhide HB4) hgp3)
      have hs4 := (unhide HB4).size
      have HSP := hide (pts_same_any (some ⟨gq, 0, none⟩) (some ⟨gp, 0, none⟩) gq 0 gp 0 N cq cp P W4 (unhide HPL) (by omega) (fun _ => ⟨rfl, hgq, hiq⟩) (fun _ => ⟨rfl, by omega, unhide HI4⟩))
      have lt4 := cell_lt e0
      clear hatq hiq HQ1 HQ2 cx cy b0 b1
      go_wp2_with fail
      refine (unhide HSP).mono ?_
      rintro e W5 ⟨rfl, hb5⟩
      have f0 := keep1 hb5 e0
      have f1 := keep1 hb5 e1
      have cx5 := keep1 hb5 cx4
      have cy5 := keep1 hb5 cy4
      have lt5 := cell_lt f0
      have hs5 := hb5.size
      have HB5 : Hid (Below W1.heap.size W1 W5) := hide (bc (bc (unhide HB3) (unhide HB4)) hb5)
      have hgp5 : gp < W5.heap.size := by omega
      clear hb5 e0 e1 cx4 cy4 HSP HI4 HI3
      go_wp2_with fail
      refine Go.Code.wp_mono (Only.to (fun _ _ h => h)) (mv11 hkN (by omega) hgp5 bdx bdy cx5 cy5 (hide fun W hW i hi => unhide HAT W (bc (bc (unhide HB1) (unhide HB5)) hW) i 9 hi (by omega)) (fun y73 y74 y75 y76 y77 y78 y79 y80 y81 y82 y83 y84 y85 y86 y87 y88 y89 rx ry q W6 hrx hry hb6 hq6 hblk => ?_))
      have g0 := keep1 hb6 f0
      have g1 := keep1 hb6 f1
      have t0 := pair_c0 hblk
      have t1 := pair_c1 hblk
      have lt6 := cell_lt g0
      have ltq := cell_lt t0
      have HB6 : Hid (Below W1.heap.size W1 W6) := hide (bc (unhide HB5) hb6)
      have HM2 := hide (fun W (hW : Below W1.heap.size W1 W) => unhide HMP W hW k (x + rx) (y + ry))
      have HM3 := hide (fun W (hW : Below W1.heap.size W1 W) => unhide HMM W hW k (x + rx) (y + ry))
      clear hblk f0 f1 cx5 cy5 hb6
      generalize hX : x + rx = X at *
      generalize hY : y + ry = Y at *
      go_wp2_with fail
      refine (unhide HM2 _ (unhide HB6)).mono ?_
      rintro e W7 ⟨p1, p2, rfl, hp1, hp2, hb7⟩
      have i0 := keep1 hb7 g0
      have i1 := keep1 hb7 g1
      have j0 := keep1 hb7 t0
      have j1 := keep1 hb7 t1
      have lt7 := cell_lt i0
      have ltq7 := cell_lt j0
      have HP1 := hide hp1
      have HB7 : Hid (Below W1.heap.size W1 W7) := hide (bc (unhide HB6) hb7)
      clear hp1 hp2 hb7 g0 g1 t0 t1
      go_wp2_with fail
      refine (unhide HM3 _ (unhide HB7)).mono ?_
      rintro e W8 ⟨m1, m2, rfl, hb8⟩
      have k0 := keep1 hb8 i0
      have k1 := keep1 hb8 i1
      have l0 := keep1 hb8 j0
      have l1' := keep1 hb8 j1
      have lt8 := cell_lt k0
      have ltq8 := cell_lt l0
      have HB8 : Hid (Below W1.heap.size W1 W8) := hide (bc (unhide HB7) hb8)
      obtain ⟨u7, g7, c7, rfl, hat7⟩ := (unhide HP1).at
      have HA7 : Hid (At W8 u7 g7 (outN (N : Int) (rs ++ exR k X Y)) (outP (N : Int) (rs ++ exR k X Y))) := hide (fun h0 => ⟨(hat7 h0).1, Nat.lt_of_lt_of_le (hat7 h0).2.1 hb8.size, (hat7 h0).2.2.below hb8 (hat7 h0).2.1⟩)
      clear hb8 i0 i1 j0 j1 hat7 HP1 HM2 HM3 HM1 HMP HMM
      have eqC : (outC (N : Int) (rs ++ exR k X Y) == outC (N : Int) (rs ++ exR k X Y)) = true := by simp
      by_cases hD : outC (N : Int) (rs ++ exR k X Y) = 0
      · obtain ⟨ok2, kp2⟩ := out_zero hD
        obtain ⟨_, oN, oP, _⟩ := out_ok ok2 kp2
        obtain ⟨_, _, _, hr2⟩ := ok_parts ok2
        obtain ⟨th1, th2, th3⟩ := move_there hr2 kp2
        have bd2 := fun (j : Nat) (hj : j < N * 2) => pts_bd hr2 kp2 hj
        have pl2 := ptsP_len (goP N (rs ++ exR k X Y)).1 N
        rw [oN, oP] at HA7
        rw [oN]
        generalize hP2 : ptsP (goP N (rs ++ exR k X Y)).1 N = P2 at *
        obtain ⟨hu7, hg7, hi7⟩ := unhide HA7 (by omega)
        subst hu7
        have HKA := hide (fun W (hW : Below W8.heap.size W8 W) => keepsAll_any g7 N c7 P2 u p rs.length c rs W pl2 (unhide HR) (by omega) (by omega) rfl (by omega) (fun j hj => by have := bd2 j hj; omega) (Nat.lt_of_lt_of_le hg7 hW.size) (hi7.below hW hg7) (unhide HY W (bc (unhide HB8) hW)))
        rw [th3] at HKA
        have c0 : W8.cell? ⟨g7, k * 2, none⟩ = some (.int .i64 X) := by have := hi7 _ _ (gtk_some (show k * 2 < P2.length by rw [pl2]; omega)); rw [Nat.zero_add, th1] at this; exact this
        have c1 : W8.cell? ⟨g7, k * 2 + 1, none⟩ = some (.int .i64 Y) := by have := hi7 _ _ (gtk_some (show k * 2 + 1 < P2.length by rw [pl2]; omega)); rw [Nat.zero_add, th2] at this; exact this
        have z1 : (outC (N : Int) (rs ++ exR k X Y) != 0) = false := by simp [hD]
        clear hi7 HA7 bd2 hr2 ok2 kp2 oN oP
        go_wp2_with fail
        go_region_held3 (fun wx => wx.cell? ⟨W1.heap.size, 1, none⟩ = some (.slice u rs.length c) ∧ wx.cell? ⟨g7, k * 2, none⟩ = some (.int .i64 X) ∧ wx.cell? ⟨g7, k * 2 + 1, none⟩ = some (.int .i64 Y) ∧ wx.cell? ⟨q, 0, none⟩ = some (.int .i64 X) ∧ wx.cell? ⟨q, 1, none⟩ = some (.int .i64 Y))
          (simp (maxDischargeDepth := 12) [go_sem, le1, lt1, *])
          (first
          | (go_at_call 11; refine (unhide HKA _ (by first | exact Below.refl _ _ | exact Below.drew (Below.refl _ _))).mono ?_; rintro e W9 ⟨rfl, hb9⟩; have HB9 : Hid (Below W8.heap.size W8 W9) := hide (by first | exact hb9 | exact bc (Below.drew (Below.refl _ _)) hb9); have n1' := keep1 (unhide HB9) k1; have n2' := keep1 (unhide HB9) c0; have n3' := keep1 (unhide HB9) c1; have n4' := keep1 (unhide HB9) l0; have n5' := keep1 (unhide HB9) l1'; clear hb9))
        all_goals
          go_wp2_with fail
          go_ret
          exact ⟨rfl, bc (unhide HB1) (bc (unhide HB8) (unhide HB9))⟩
      · have z1 : (outC (N : Int) (rs ++ exR k X Y) != 0) = true := by simp [hD]
        go_wp2_with fail
        go_quiet (fail)
        go_wp2_with fail
        go_ret
        exact ⟨rfl, by repeat (first | exact bc (unhide HB1) (unhide HB8) | refine Below.drew ?_ | refine bc (bc (unhide HB1) (unhide HB8)) ⟨rfl, rfl, rfl, Nat.le_refl _, fun _ _ => rfl⟩)⟩
    · have d60 : decide ((60 : Int) < (rs.length : Int) + 2) = true := decide_eq_true (by omega)
      go_wp2_with fail
      go_ret
      exact ⟨rfl, bc (unhide HB1) (unhide HB2)⟩
  · have hC1 : (outC (N : Int) rs != 0) = true := by simp [hC]
    go_wp2_with fail
    go_ret
    exact ⟨rfl, bc (unhide HB1) (unhide HB2)⟩
end Go.Proofs.Ytchdmigeopmacaa
