/-
  The model's ZoneOf.
-/
import Derived.Test.YtdcecfgmfmpeeaaZm8q
namespace Go.Proofs.Ytdcecfgmfmpeeaa
open Go.ChangeShapes Go.WideShapes Go.ChangeAt Go.RowKit
set_option linter.unusedVariables false
set_option linter.unusedSimpArgs false
theorem sdM_any (a1 a2 c1 c2 x y : Int) (w : World) (ha : ptOk (a1, a2) = true) (hc : ptOk (c1, c2) = true) (hx : ptOk (x, y) = true) :
  Calls Try.prog 31 #[.agg #[.int .i64 a1, .int .i64 a2], .agg #[.int .i64 c1, .int .i64 c2], .agg #[.int .i64 x, .int .i64 y]] w fun e w' => e = .returned (.int .i64 (side (a1, a2) (c1, c2) (x, y))) ∧ Below w.heap.size w w' := side_any (a1, a2) (c1, c2) (x, y) w ha hc hx
def bsc (z : Nat → Zo) (i : Nat) : Zo := if i = 0 then ⟨0, 0, 0, 0, 0⟩ else bst z (i - 1)
theorem bsc_first (z : Nat → Zo) : bsc z 1 = z 0 := rfl
theorem bsc_succ (z : Nat → Zo) {i : Nat} (h : i ≠ 0) : bsc z (i + 1) = if (z i).N * (bsc z i).D < (bsc z i).N * (z i).D then z i else bsc z i := by
 obtain ⟨k, rfl⟩ : ∃ k, i = k + 1 := ⟨i - 1, by omega⟩
 show bst z (k + 1) = _
 rfl
theorem bsc_ok {z : Nat → Zo} {n : Nat} (hz : ∀ i, i < n → ZoOk (z i)) {i : Nat} (hi : i ≤ n) : ZoOk (bsc z i) := by
 unfold bsc
 split
 ·exact ⟨by show (0 : Int) ≤ 0 ∧ (0 : Int) ≤ _; omega, by show (0 : Int) ≤ 0 ∧ (0 : Int) ≤ _; omega⟩
 ·exact bst_ok _ (fun j hj => hz j (by omega))
set_option maxHeartbeats 8000000 in
set_option maxRecDepth 100000 in
theorem zoM_any (b cap : Nat) (L : List Pt) (w : World) (hn : L.length ≤ 1048576) (hb : b < w.heap.size) (hI : IntsAt w b 0 (flat2 L)) :
  Calls Try.prog 8 #[.slice (some ⟨b, 0, none⟩) L.length cap] w fun e w' => e = .returned (.tuple #[zoV (zoR L), .int .i64 (mcC L)]) ∧ Below w.heap.size w w' := by
 have HB0 := hide (ba (Below.refl w.heap.size w) (.cells #[.int .i64 0, .int .i64 0, .int .i64 0, .int .i64 0, .int .i64 0] 26))
 have H2 : Hid (cb (w.alloc (.cells #[.int .i64 0, .int .i64 0, .int .i64 0, .int .i64 0, .int .i64 0] 26)) w.heap.size 26 z5) := hide (cb_new w 26 z5 _ rfl)
 have HI := hide hI
 by_cases h4 : 4096 < L.length
 ·have HMC : Hid (mcC L = 2) := hide (by unfold mcC; rw [if_pos h4])
  have HZR : Hid (zoR L = ⟨0, 0, 0, 0, 0⟩) := hide (by unfold zoR; rw [if_pos (by rw [zu HMC]; decide)])
  have d4 : decide ((4096 : Int) < (L.length : Int)) = true := decide_eq_true (by omega)
  rw [zu HMC]
  clear hI h4
  go_enter Try.func8, Try.ntmps8
  go_wp2_with fail
  generalize w.alloc (.cells #[.int .i64 0, .int .i64 0, .int .i64 0, .int .i64 0, .int .i64 0] 26) = W0 at *
  have o0 := (zu H2).cell (m := 0) rfl
  have o1 := (zu H2).cell (m := 1) rfl
  have o2 := (zu H2).cell (m := 2) rfl
  have o3 := (zu H2).cell (m := 3) rfl
  have o4 := (zu H2).cell (m := 4) rfl
  have of := (zu H2).frozen
  try go_wp2_with fail
  exact bodyPost_ret (v := .tuple #[.agg #[.int .i64 0, .int .i64 0, .int .i64 0, .int .i64 0, .int .i64 0], .int .i64 2]) (by simp [results, Try.results8, go_sem, o0, o1, o2, o3, o4]) rfl ⟨by rw [zu HZR]; rfl, zu HB0⟩
 ·have d4 : decide ((4096 : Int) < (L.length : Int)) = false := decide_eq_false (by omega)
  have HNR := hide (nrM_any b cap L.length L (w.alloc (.cells #[.int .i64 0, .int .i64 0, .int .i64 0, .int .i64 0, .int .i64 0] 26)) (hide rfl) (by omega) (hide (hI.below (zu HB0) hb)))
  by_cases hall : 1 ≤ L.length ∧ L.length ≤ 200 ∧ L.all nrP = true
  ·have hmc : mcC L = 0 := by unfold mcC; rw [if_neg h4, if_pos hall]
   rw [show (decide (1 ≤ L.length ∧ L.length ≤ 200) && L.all nrP) = true by rw [hall.2.2, decide_eq_true ⟨hall.1, hall.2.1⟩]; rfl] at HNR
   have hN := nr_near hall.2.2
   have hLne : L ≠ [] := fun e => by rw [e] at hall; simp at hall
   have HHU := hide (fun X (hX : Below w.heap.size w X) => hullM_any b cap L X (by omega) hLne (Nat.lt_of_lt_of_le hb hX.size) (List.all_eq_true.1 (nr_ptok hall.2.2)) (hI.below hX hb))
   have hm1 : 1 ≤ (hullM (srtU L)).length := hull_some (srtU_ne hLne)
   have hm400 : (hullM (srtU L)).length ≤ 400 := by
    have h1 := hullM_le (srtU L)
    have h2 := srtU_len L
    omega
   have HHI := hide (fun q (h : q ∈ hullM (srtU L)) => hull_in (L := L) h)
   have HZR : Hid (zoR L = if (hullM (srtU L)).length < 3 then ⟨fi L (ptAt (hullM (srtU L)) 0), fi L (ptAt (hullM (srtU L)) ((hullM (srtU L)).length - 1)), fi L (ptAt (hullM (srtU L)) 0), 0, max 1 (sqd (ptAt (hullM (srtU L)) 0) (ptAt (hullM (srtU L)) ((hullM (srtU L)).length - 1)))⟩ else bst (fun i => zn L (ptAt (hullM (srtU L)) i) (ptAt (hullM (srtU L)) ((i + 1) % (hullM (srtU L)).length))) ((hullM (srtU L)).length - 1)) := hide (by unfold zoR; rw [if_neg (by simp [hmc])]; rfl)
   rw [hmc]
   obtain ⟨Hl, hHl⟩ : ∃ Hl, hullM (srtU L) = Hl := ⟨_, rfl⟩
   rw [hHl] at HHU hm1 hm400 HHI HZR
   obtain ⟨m, hm⟩ : ∃ m, Hl.length = m := ⟨_, rfl⟩
   rw [hm] at HHU hm1 hm400 HZR
   have HHM := hide hm
   obtain ⟨n, hLn⟩ : ∃ n, L.length = n := ⟨_, rfl⟩
   have HLN := hide hLn
   rw [hLn] at HHU hn hall HNR d4 ⊢
   clear hHl hm hI hmc hLn h4
   go_enter Try.func8, Try.ntmps8
   go_wp2_with fail
   generalize w.alloc (.cells #[.int .i64 0, .int .i64 0, .int .i64 0, .int .i64 0, .int .i64 0] 26) = W0 at *
   refine (zu HNR).mono ?_
   rintro e W1 ⟨rfl, hs1⟩
   have H2a := hide ((zu H2).bel hs1.bel)
   have HBa := hide (bc (zu HB0) hs1.bel)
   clear hs1 H2 HB0 HNR
   go_wp2_with fail
   refine (zu HHU _ (zu HBa)).mono ?_
   rintro e W2 ⟨v, rfl, hr2, hb2⟩
   obtain ⟨gh, ch, rfl, hgh1, hgh2, hhi, hcm1, hcm2⟩ := hr2.full (by omega)
   have HHX := hide hhi
   have H2b := hide ((zu H2a).bel hb2)
   have HBb := hide (bc (zu HBa) hb2)
   have HIb := hide ((zu HI).below (zu HBb) hb)
   have hbb : b < W2.heap.size := Nat.lt_of_lt_of_le hb (zu HBb).size
   have hwb : w.heap.size < W2.heap.size := (zu H2b).lt
   clear hr2 hb2 hhi H2a HBa HHU HI
   by_cases h3 : m < 3
   ·have d3 : decide ((m : Int) < 3) = true := decide_eq_true (by omega)
    obtain ⟨q, hq⟩ : ∃ q, m - 1 = q := ⟨_, rfl⟩
    have wq : IntKind.i64.wrap ((m : Int) - 1) = (q : Int) := (wr64 (by omega) (by omega)).trans (by omega)
    have hp0 := ptAt_some (L := Hl) (i := 0) (by rw [zu HHM]; omega)
    have hpq := ptAt_some (L := Hl) (i := q) (by rw [zu HHM]; omega)
    have ma := zu HHI _ (List.mem_of_getElem? hp0)
    have mc := zu HHI _ (List.mem_of_getElem? hpq)
    have HZ3 : Hid (zoR L = ⟨fi L (ptAt Hl 0), fi L (ptAt Hl q), fi L (ptAt Hl 0), 0, max 1 (sqd (ptAt Hl 0) (ptAt Hl q))⟩) := hide (by rw [zu HZR, if_pos h3, hq])
    obtain ⟨⟨a1, a2⟩, ha⟩ : ∃ a, ptAt Hl 0 = a := ⟨_, rfl⟩
    obtain ⟨⟨c1, c2⟩, hc⟩ : ∃ c, ptAt Hl q = c := ⟨_, rfl⟩
    rw [ha] at hp0 ma HZ3
    rw [hc] at hpq mc HZ3
    obtain ⟨A0, A1⟩ := pts_at (zu HHX) hp0
    obtain ⟨C0, C1⟩ := pts_at (zu HHX) hpq
    simp only [Nat.zero_mul, Nat.zero_add] at A0 A1
    have HA0 := hide A0
    have HA1 := hide A1
    have HC0 := hide C0
    have HC1 := hide C1
    have ra := hN _ ma
    have rc := hN _ mc
    simp only at ra rc
    have HFA := hide (fi_fst ma)
    have HFC := hide (fi_fst mc)
    have hqm : q < m := by omega
    have q1 : (q : Int) < (m : Int) := by omega
    have q0 : (0 : Int) ≤ (q : Int) := Int.natCast_nonneg _
    have m0 : (0 : Int) < (m : Int) := by omega
    have m0' : 0 < m := by omega
    obtain ⟨ja, hja⟩ : ∃ ja, fi L (a1, a2) = ja := ⟨_, rfl⟩
    obtain ⟨jb, hjb⟩ : ∃ jb, fi L (c1, c2) = jb := ⟨_, rfl⟩
    rw [hja] at HFA HZ3
    rw [hjb] at HFC HZ3
    clear ha hc hp0 hpq C0 C1 hq ma mc hja hjb
    go_wp2_with fail
    refine (fstM_any b cap n L a1 a2 ja W2 HLN (by omega) hbb HIb HFA).mono ?_
    rintro e W3 ⟨rfl, hb3⟩
    have hA : Below W3.heap.size W3 (W3.alloc (.cells #[.int .i64 (ja : Int), .int .i64 0, .int .i64 0, .int .i64 0, .int .i64 0] 26)) := ba (Below.refl _ _) _
    have hbA := bc hb3 hA
    have H5 := hide (cb_new W3 26 [.int .i64 (ja : Int), .int .i64 0, .int .i64 0, .int .i64 0, .int .i64 0] W3.heap.size rfl)
    have H2c := hide ((zu H2b).bel hbA)
    have HBc := hide (bc (zu HBb) hbA)
    have HIc := hide ((zu HIb).below hbA hbb)
    have hbc' : b < (W3.alloc (.cells #[.int .i64 (ja : Int), .int .i64 0, .int .i64 0, .int .i64 0, .int .i64 0] 26)).heap.size := Nat.lt_of_lt_of_le hbb hbA.size
    have A0c := keep1 hbA (zu HA0)
    have A1c := keep1 hbA (zu HA1)
    have C0c := keep1 hbA (zu HC0)
    have C1c := keep1 hbA (zu HC1)
    have hw3 : w.heap.size < W3.heap.size := Nat.lt_of_lt_of_le hwb hb3.size
    have hgh3 : gh < W3.heap.size := Nat.lt_of_lt_of_le hgh2 hb3.size
    clear hb3 hA hbA A0 A1 HA0 HA1 HC0 HC1 H2b HBb HIb
    go_upto_region 8 with fail
    generalize W3.alloc (.cells #[.int .i64 (ja : Int), .int .i64 0, .int .i64 0, .int .i64 0, .int .i64 0] 26) = W4 at *
    generalize W3.heap.size = b5 at *
    go_wp2_with fail
    refine (fstM_any b cap n L c1 c2 jb W4 HLN (by omega) hbc' HIc HFC).mono ?_
    rintro e W5 ⟨rfl, hb5⟩
    have H5a := hide ((zu H5).bel hb5)
    have H2d := hide ((zu H2c).bel hb5)
    have HBd := hide (bc (zu HBc) hb5)
    have HA0 := hide (keep1 hb5 A0c)
    have HA1 := hide (keep1 hb5 A1c)
    have HC0 := hide (keep1 hb5 C0c)
    have HC1 := hide (keep1 hb5 C1c)
    have f5 := (zu H5a).frozen
    have e0 := (zu H5a).cell (m := 0) rfl
    have e1 := (zu H5a).cell (m := 1) rfl
    have e2 := (zu H5a).cell (m := 2) rfl
    have hghx : gh ≠ b5 := by omega
    clear hb5 A0c A1c C0c C1c H5 H2c HBc HIc
    go_wp2_with fail
    have h5l := (zu H5a).lt
    have H5b := hide (((zu H5a).set 1 (.int .i64 (jb : Int))).set 2 (.int .i64 (ja : Int)))
    have H2e := hide (((zu H2d).ne (o := 1) (x := .int .i64 (jb : Int)) (show w.heap.size ≠ b5 by omega)).ne (o := 2) (x := .int .i64 (ja : Int)) (show w.heap.size ≠ b5 by omega))
    have HBe : Hid (Below w.heap.size w ((W5.setCell ⟨b5, 1, none⟩ (.int .i64 (jb : Int))).setCell ⟨b5, 2, none⟩ (.int .i64 (ja : Int)))) := hide (Below.setCell (Below.setCell (zu HBd) (by show w.heap.size ≤ b5; omega) _) (by show w.heap.size ≤ b5; omega) _)
    have hcell : ∀ o v, W5.cell? ⟨gh, o, none⟩ = some v → ((W5.setCell ⟨b5, 1, none⟩ (.int .i64 (jb : Int))).setCell ⟨b5, 2, none⟩ (.int .i64 (ja : Int))).cell? ⟨gh, o, none⟩ = some v := fun o v h => (World.cell?_of_block (w := W5) (a := ⟨gh, o, none⟩) ((Below.heap_setCell _ _ _ _ hghx).trans (Below.heap_setCell _ _ _ _ hghx))).trans h
    have HA0' := hide (hcell _ _ (zu HA0))
    have HA1' := hide (hcell _ _ (zu HA1))
    have HC0' := hide (hcell _ _ (zu HC0))
    have HC1' := hide (hcell _ _ (zu HC1))
    have h5l' : b5 < ((W5.setCell ⟨b5, 1, none⟩ (.int .i64 (jb : Int))).setCell ⟨b5, 2, none⟩ (.int .i64 (ja : Int))).heap.size := (zu H5b).lt
    generalize (W5.setCell ⟨b5, 1, none⟩ (.int .i64 (jb : Int))).setCell ⟨b5, 2, none⟩ (.int .i64 (ja : Int)) = W6 at *
    clear hcell HA0 HA1 HC0 HC1 e0 e1 e2 f5
    refine Go.Code.wp_mono (Only.to (fun _ _ h => h)) (zm10 (dd := sqd (a1, a2) (c1, c2)) (zd := 0) h5l' HA0' HA1' HC0' HC1' (hide wq) (hide q1) (hide m0) (hide ((zu H5b).cell (m := 4) rfl)) (hide ((zu H5b).frozen 4)) (hide fun X hX => sqM_any a1 a2 c1 c2 X (by omega) (by omega)) (fun W9 hW9 => ?_))
    have H5c := hide (((zu H5b).bel hW9).set 4 (.int .i64 (max (sqd (a1, a2) (c1, c2)) 1)))
    have H2f := hide (((zu H2e).bel hW9).ne (o := 4) (x := .int .i64 (max (sqd (a1, a2) (c1, c2)) 1)) (show w.heap.size ≠ b5 by omega))
    have HBf : Hid (Below w.heap.size w (W9.setCell ⟨b5, 4, none⟩ (.int .i64 (max (sqd (a1, a2) (c1, c2)) 1)))) := hide (Below.setCell (bc (zu HBe) hW9) (by show w.heap.size ≤ b5; omega) _)
    clear hW9
    generalize W9.setCell ⟨b5, 4, none⟩ (.int .i64 (max (sqd (a1, a2) (c1, c2)) 1)) = W10 at *
    have t0 := (zu H5c).cell (m := 0) rfl
    have t1 := (zu H5c).cell (m := 1) rfl
    have t2 := (zu H5c).cell (m := 2) rfl
    have t3 := (zu H5c).cell (m := 3) rfl
    have t4 := (zu H5c).cell (m := 4) rfl
    have o0 := (zu H2f).cell (m := 0) rfl
    have o1 := (zu H2f).cell (m := 1) rfl
    have o2 := (zu H2f).cell (m := 2) rfl
    have o3 := (zu H2f).cell (m := 3) rfl
    have o4 := (zu H2f).cell (m := 4) rfl
    have of := (zu H2f).frozen
    go_wp2_with fail
    have V4 := hide (((((zu H2f).set 0 (.int .i64 (ja : Int))).set 1 (.int .i64 (jb : Int))).set 2 (.int .i64 (ja : Int))).set 3 (.int .i64 0) |>.set 4 (.int .i64 (max (sqd (a1, a2) (c1, c2)) 1)))
    have s0 := (zu V4).cell (m := 0) rfl
    have s1 := (zu V4).cell (m := 1) rfl
    have s2 := (zu V4).cell (m := 2) rfl
    have s3 := (zu V4).cell (m := 3) rfl
    have s4 := (zu V4).cell (m := 4) rfl
    refine bodyPost_ret (v := .tuple #[.agg #[.int .i64 (ja : Int), .int .i64 (jb : Int), .int .i64 (ja : Int), .int .i64 0, .int .i64 (max (sqd (a1, a2) (c1, c2)) 1)], .int .i64 0]) (by simp [results, Try.results8, go_sem, s0, s1, s2, s3, s4]) rfl ⟨by rw [zu HZ3, Int.max_comm]; rfl, ?_⟩
    exact Below.setCell (Below.setCell (Below.setCell (Below.setCell (Below.setCell (zu HBf) (Nat.le_refl _) _) (Nat.le_refl _) _) (Nat.le_refl _) _) (Nat.le_refl _) _) (Nat.le_refl _) _
   ·have d3 : decide ((m : Int) < 3) = false := decide_eq_false (by omega)
    obtain ⟨z, hz⟩ : ∃ z : Nat → Zo, (fun i => zn L (ptAt Hl i) (ptAt Hl ((i + 1) % m))) = z := ⟨_, rfl⟩
    have hze : ∀ i, zn L (ptAt Hl i) (ptAt Hl ((i + 1) % m)) = z i := fun i => by rw [← hz]
    have HZ3 : Hid (zoR L = bsc z m) := hide (by rw [zu HZR, if_neg h3, hz]; unfold bsc; rw [if_neg (by omega)])
    have HZK : Hid (∀ i, i < m → ZoOk (z i)) := hide (fun i hi => by
     rw [← hze]
     exact zn_ok hN (by rw [zu HLN]; exact hall.1) (zu HHI _ (List.mem_of_getElem? (ptAt_some (by rw [zu HHM]; exact hi)))) (zu HHI _ (List.mem_of_getElem? (ptAt_some (by rw [zu HHM]; exact Nat.mod_lt _ (by omega))))))
    have HZE : Hid (∀ i, z i = ⟨fi L (ptAt Hl i), fi L (ptAt Hl ((i + 1) % m)), frM (fun k => side (ptAt Hl i) (ptAt Hl ((i + 1) % m)) (ptAt L k)) n, side (ptAt Hl i) (ptAt Hl ((i + 1) % m)) (ptAt L (frM (fun k => side (ptAt Hl i) (ptAt Hl ((i + 1) % m)) (ptAt L k)) n)) * side (ptAt Hl i) (ptAt Hl ((i + 1) % m)) (ptAt L (frM (fun k => side (ptAt Hl i) (ptAt Hl ((i + 1) % m)) (ptAt L k)) n)), sqd (ptAt Hl i) (ptAt Hl ((i + 1) % m))⟩) := hide (fun i => by rw [← hze]; unfold zn; rw [zu HLN])
    have HIN : Hid (∀ i, i < m → ptAt Hl i ∈ L) := hide (fun i hi => zu HHI _ (List.mem_of_getElem? (ptAt_some (by rw [zu HHM]; exact hi))))
    have HPN : Hid (∀ k, k < n → ptAt L k ∈ L) := hide (fun k hk => List.mem_of_getElem? (ptAt_some (by rw [zu HLN]; exact hk)))
    have HNN := hide hN
    have HA6 := hide (ba (Below.refl W2.heap.size W2) (.cells #[.int .i64 0, .int .i64 0, .int .i64 0, .int .i64 0, .int .i64 0] 26))
    have H6 : Hid (cb (W2.alloc (.cells #[.int .i64 0, .int .i64 0, .int .i64 0, .int .i64 0, .int .i64 0] 26)) W2.heap.size 26 z5) := hide (cb_new W2 26 z5 _ rfl)
    clear hz hze HZR hN HHI
    go_wp2_with fail
    generalize W2.alloc (.cells #[.int .i64 0, .int .i64 0, .int .i64 0, .int .i64 0, .int .i64 0] 26) = W3 at *
    obtain ⟨b6, hb6⟩ : ∃ b6, W2.heap.size = b6 := ⟨_, rfl⟩
    have HI3 := hide ((zu HIb).below (zu HA6) hbb)
    have HH3 := hide ((zu HHX).below (zu HA6) hgh2)
    have H23 := hide ((zu H2b).bel (zu HA6))
    have HB3 := hide (bc (zu HBb) (zu HA6))
    rw [hb6] at H6 hgh2 hbb hwb ⊢
    clear HA6 H2b HBb HIb HHX hb6
    go_loopw [7] (fun zz X => ∃ i : Nat, zz = .int .i64 (i : Int) ∧ i ≤ m ∧ cb X b6 26 [.int .i64 (bsc z i).A, .int .i64 (bsc z i).B, .int .i64 (bsc z i).C, .int .i64 (bsc z i).N, .int .i64 (bsc z i).D] ∧ Below b6 W3 X) (fun zz _ => m - (intOf zz).toNat)
    case atStart => exact ⟨0, rfl, Nat.zero_le _, zu H6, Below.refl _ _⟩
    case round =>
     obtain ⟨i, rfl, hi, hv6, hw⟩ := hrel
     have HV6 := hide hv6
     have HW := hide hw
     have h6l := hv6.lt
     by_cases h : i < m
     ·have i1 : (i : Int) < (m : Int) := by omega
      have i0 : (0 : Int) ≤ (i : Int) := Int.natCast_nonneg _
      have iz : decide ((i : Int) < (m : Int)) = true := decide_eq_true i1
      have nz : ((m : Int) == 0) = false := by rw [beq_eq_false_iff_ne]; omega
      have nw : ¬ m = 0 := by omega
      have wi : IntKind.i64.wrap ((i : Int) + 1) = (i : Int) + 1 := wr64 (by omega) (by omega)
      have mi' : (i + 1) % m < m := Nat.mod_lt _ (by omega)
      have hzi := zu HZE i
      have hin1 := zu HIN i h
      have hin2 := zu HIN _ mi'
      have HZKi := hide (zu HZK i h)
      obtain ⟨mm, hmm⟩ : ∃ mm : Nat, (i + 1) % m = mm := ⟨_, rfl⟩
      rw [hmm] at hzi mi' hin2
      have ei : ((i : Int) + 1).tmod (m : Int) = (mm : Int) := by rw [tmod_nat, hmm]
      have ei2 : ((i : Int) + 1) % (m : Int) = (mm : Int) := by rw [← hmm]; rfl
      have mm0 : (0 : Int) ≤ (mm : Int) := Int.natCast_nonneg _
      have mm1 : (mm : Int) < (m : Int) := by omega
      clear hmm
      have hhw := (zu HH3).below hw hgh2
      have hp1 := ptAt_some (L := Hl) (i := i) (by rw [zu HHM]; omega)
      have hp2 := ptAt_some (L := Hl) (i := mm) (by rw [zu HHM]; omega)
      obtain ⟨⟨a1, a2⟩, ha⟩ : ∃ a, ptAt Hl i = a := ⟨_, rfl⟩
      obtain ⟨⟨c1, c2⟩, hc⟩ : ∃ c, ptAt Hl mm = c := ⟨_, rfl⟩
      rw [ha] at hzi hin1 hp1
      rw [hc] at hzi hin2 hp2
      obtain ⟨A0, A1⟩ := pts_at hhw hp1
      obtain ⟨C0, C1⟩ := pts_at hhw hp2
      have ra := zu HNN _ hin1
      have rc := zu HNN _ hin2
      simp only at ra rc
      have oa := near_ok (zu HNN _ hin1)
      have oc := near_ok (zu HNN _ hin2)
      have HFA := hide (fi_fst hin1)
      have HFC := hide (fi_fst hin2)
      have HFM0 : Hid (frM (fun k => side (a1, a2) (c1, c2) (ptAt L k)) 0 = 0) := hide rfl
      have HFMS : Hid (∀ k, frM (fun k => side (a1, a2) (c1, c2) (ptAt L k)) (k + 1) = if side (a1, a2) (c1, c2) (ptAt L (frM (fun k => side (a1, a2) (c1, c2) (ptAt L k)) k)) < side (a1, a2) (c1, c2) (ptAt L k) then k else frM (fun k => side (a1, a2) (c1, c2) (ptAt L k)) k) := hide (fun k => rfl)
      have HFML : Hid (∀ k, k ≤ n → frM (fun k => side (a1, a2) (c1, c2) (ptAt L k)) k < n) := hide (frM_lt _ hall.1)
      obtain ⟨FM, hFM⟩ : ∃ FM, frM (fun k => side (a1, a2) (c1, c2) (ptAt L k)) = FM := ⟨_, rfl⟩
      rw [hFM] at hzi HFM0
      simp only [hFM] at HFMS HFML
      have HZI := hide hzi
      have HB8 : Hid (Below wr.heap.size wr ((wr.alloc (.cells #[.int .i64 a1, .int .i64 a2] 30)).alloc (.cells #[.int .i64 c1, .int .i64 c2] 30))) := hide (ba (ba (Below.refl _ _) _) _)
      have V8 := hide (cb_new1 wr 30 [.int .i64 a1, .int .i64 a2] (.cells #[.int .i64 c1, .int .i64 c2] 30))
      have V9 := hide (cb_new2 wr 30 [.int .i64 c1, .int .i64 c2] (.cells #[.int .i64 a1, .int .i64 a2] 30))
      have HWy := hide (hw.trans ((zu HB8).mono (by omega)))
      have V6y := hide (hv6.bel (zu HB8))
      have hghw : gh < wr.heap.size := by omega
      have C0a := ka (o := .cells #[.int .i64 a1, .int .i64 a2] 30) C0
      have C1a := ka (o := .cells #[.int .i64 a1, .int .i64 a2] 30) C1
      clear hzi hhw hp1 hp2 ha hc hv6 hw hFM HV6 HW
      go_wp2_with fail
      generalize (wr.alloc (.cells #[.int .i64 a1, .int .i64 a2] 30)).alloc (.cells #[.int .i64 c1, .int .i64 c2] 30) = Wy at *
      generalize wr.heap.size + 1 = b9 at *
      generalize wr.heap.size = b8 at *
      clear A0 A1 C0 C1 C0a C1a hghw
      try go_wp2_with fail
      go_loopw [10, 11] (fun z10 zz X => ∃ k : Nat, zz = .int .i64 (k : Int) ∧ k ≤ n ∧ z10 = .int .i64 (FM k : Int) ∧ Below Wy.heap.size Wy X) (fun _ zz _ => n - (intOf zz).toNat)
      case atStart => exact ⟨0, rfl, Nat.zero_le _, by rw [zu HFM0]; rfl, Below.refl _ _⟩
      case round =>
       obtain ⟨k, rfl, hk, rfl, hx⟩ := hrel
       have HX := hide hx
       have e0 := ((zu V8).bel hx).cell (m := 0) rfl
       have e1 := ((zu V8).bel hx).cell (m := 1) rfl
       have g0 := ((zu V9).bel hx).cell (m := 0) rfl
       have g1 := ((zu V9).bel hx).cell (m := 1) rfl
       have hfk := zu HFML k hk
       have HIx := hide (((zu HI3).below (zu HWy) hbb).below hx (by have := (zu V6y).lt; omega))
       by_cases hkn : k < n
       ·have j1 : (k : Int) < (n : Int) := by omega
        have j0 : (0 : Int) ≤ (k : Int) := Int.natCast_nonneg _
        have jz : decide ((k : Int) < (n : Int)) = true := decide_eq_true j1
        have HSX := hide (fun X => sdM_any a1 a2 c1 c2 (ptAt L k).1 (ptAt L k).2 X oa oc (near_ok (zu HNN _ (zu HPN k hkn))))
        have HSU := hide (fun X => sdM_any a1 a2 c1 c2 (ptAt L (FM k)).1 (ptAt L (FM k)).2 X oa oc (near_ok (zu HNN _ (zu HPN _ hfk))))
        have HFK := hide (zu HFMS k)
        have hx1 := ptAt_some (L := L) (i := k) (by rw [zu HLN]; exact hkn)
        have hx2 := ptAt_some (L := L) (i := FM k) (by rw [zu HLN]; exact hfk)
        obtain ⟨fr, hfr⟩ : ∃ fr, FM k = fr := ⟨_, rfl⟩
        rw [hfr] at HSU HFK hx2 hfk ⊢
        obtain ⟨⟨x, y⟩, hxy⟩ : ∃ p, ptAt L k = p := ⟨_, rfl⟩
        obtain ⟨⟨u, v⟩, huv⟩ : ∃ p, ptAt L fr = p := ⟨_, rfl⟩
        rw [hxy] at HSX HFK hx1
        rw [huv] at HSU HFK hx2
        simp only at HSX HSU
        obtain ⟨x0, x1⟩ := pts_at (zu HIx) hx1
        obtain ⟨u0, u1⟩ := pts_at (zu HIx) hx2
        have r1 : (fr : Int) < (n : Int) := by omega
        have r0 : (0 : Int) ≤ (fr : Int) := Int.natCast_nonneg _
        generalize side (a1, a2) (c1, c2) (x, y) = sx at *
        generalize side (a1, a2) (c1, c2) (u, v) = su at *
        clear hx hx1 hx2 hfr hxy huv
        by_cases hlt : su < sx
        ·have dl : decide (su < sx) = true := decide_eq_true hlt
         go_wp2_with fail
         go_region_held3 (fun wx => wx.cell? ⟨b8, 0, none⟩ = some (.int .i64 a1) ∧ wx.cell? ⟨b8, 1, none⟩ = some (.int .i64 a2) ∧ wx.cell? ⟨b9, 0, none⟩ = some (.int .i64 c1) ∧ wx.cell? ⟨b9, 1, none⟩ = some (.int .i64 c2) ∧ wx.cell? ⟨b, k * 2, none⟩ = some (.int .i64 x) ∧ wx.cell? ⟨b, k * 2 + 1, none⟩ = some (.int .i64 y) ∧ wx.cell? ⟨b, fr * 2, none⟩ = some (.int .i64 u) ∧ wx.cell? ⟨b, fr * 2 + 1, none⟩ = some (.int .i64 v))
          (simp (maxDischargeDepth := 12) [go_sem, le1, lt1, *])
          (first
          | (go_at_call 31; (first | (with_reducible refine (zu HSX _).mono ?_) | (with_reducible refine (zu HSU _).mono ?_)); rintro e w' ⟨rfl, hb'⟩; have HBx := hide (show Below wr.heap.size wr w' from bc (by repeat (first | exact Below.refl _ _ | exact zu HBx | refine Below.drew ?_)) hb'); have p0 := keep1 hb' (b := b8) (o := 0) (v := .int .i64 a1) (by simp (maxDischargeDepth := 12) [go_sem, le1, lt1, *]); have p1 := keep1 hb' (b := b8) (o := 1) (v := .int .i64 a2) (by simp (maxDischargeDepth := 12) [go_sem, le1, lt1, *]); have p2 := keep1 hb' (b := b9) (o := 0) (v := .int .i64 c1) (by simp (maxDischargeDepth := 12) [go_sem, le1, lt1, *]); have p3 := keep1 hb' (b := b9) (o := 1) (v := .int .i64 c2) (by simp (maxDischargeDepth := 12) [go_sem, le1, lt1, *]); have p4 := keep1 hb' (b := b) (o := k * 2) (v := .int .i64 x) (by simp (maxDischargeDepth := 12) [go_sem, le1, lt1, *]); have p5 := keep1 hb' (b := b) (o := k * 2 + 1) (v := .int .i64 y) (by simp (maxDischargeDepth := 12) [go_sem, le1, lt1, *]); have p6 := keep1 hb' (b := b) (o := fr * 2) (v := .int .i64 u) (by simp (maxDischargeDepth := 12) [go_sem, le1, lt1, *]); have p7 := keep1 hb' (b := b) (o := fr * 2 + 1) (v := .int .i64 v) (by simp (maxDischargeDepth := 12) [go_sem, le1, lt1, *]); clear hb'))
         all_goals
          go_wp2_with fail
          go_roundw
          case rel => exact ⟨k + 1, by simp, hkn, by rw [zu HFK, if_pos hlt], by repeat (first | exact bc (zu HX) (zu HBx) | refine Below.drew ?_)⟩
          case measure => simp only [intOf]; omega
        ·have dl : decide (su < sx) = false := decide_eq_false hlt
         go_wp2_with fail
         go_region_held3 (fun wx => wx.cell? ⟨b8, 0, none⟩ = some (.int .i64 a1) ∧ wx.cell? ⟨b8, 1, none⟩ = some (.int .i64 a2) ∧ wx.cell? ⟨b9, 0, none⟩ = some (.int .i64 c1) ∧ wx.cell? ⟨b9, 1, none⟩ = some (.int .i64 c2) ∧ wx.cell? ⟨b, k * 2, none⟩ = some (.int .i64 x) ∧ wx.cell? ⟨b, k * 2 + 1, none⟩ = some (.int .i64 y) ∧ wx.cell? ⟨b, fr * 2, none⟩ = some (.int .i64 u) ∧ wx.cell? ⟨b, fr * 2 + 1, none⟩ = some (.int .i64 v))
          (simp (maxDischargeDepth := 12) [go_sem, le1, lt1, *])
          (first
          | (go_at_call 31; (first | (with_reducible refine (zu HSX _).mono ?_) | (with_reducible refine (zu HSU _).mono ?_)); rintro e w' ⟨rfl, hb'⟩; have HBx := hide (show Below wr.heap.size wr w' from bc (by repeat (first | exact Below.refl _ _ | exact zu HBx | refine Below.drew ?_)) hb'); have p0 := keep1 hb' (b := b8) (o := 0) (v := .int .i64 a1) (by simp (maxDischargeDepth := 12) [go_sem, le1, lt1, *]); have p1 := keep1 hb' (b := b8) (o := 1) (v := .int .i64 a2) (by simp (maxDischargeDepth := 12) [go_sem, le1, lt1, *]); have p2 := keep1 hb' (b := b9) (o := 0) (v := .int .i64 c1) (by simp (maxDischargeDepth := 12) [go_sem, le1, lt1, *]); have p3 := keep1 hb' (b := b9) (o := 1) (v := .int .i64 c2) (by simp (maxDischargeDepth := 12) [go_sem, le1, lt1, *]); have p4 := keep1 hb' (b := b) (o := k * 2) (v := .int .i64 x) (by simp (maxDischargeDepth := 12) [go_sem, le1, lt1, *]); have p5 := keep1 hb' (b := b) (o := k * 2 + 1) (v := .int .i64 y) (by simp (maxDischargeDepth := 12) [go_sem, le1, lt1, *]); have p6 := keep1 hb' (b := b) (o := fr * 2) (v := .int .i64 u) (by simp (maxDischargeDepth := 12) [go_sem, le1, lt1, *]); have p7 := keep1 hb' (b := b) (o := fr * 2 + 1) (v := .int .i64 v) (by simp (maxDischargeDepth := 12) [go_sem, le1, lt1, *]); clear hb'))
         all_goals
          go_wp2_with fail
          go_roundw
          case rel => exact ⟨k + 1, by simp, hkn, by rw [zu HFK, if_neg (by omega)], by repeat (first | exact bc (zu HX) (zu HBx) | refine Below.drew ?_)⟩
          case measure => simp only [intOf]; omega
       ·have jz : decide ((k : Int) < (n : Int)) = false := decide_eq_false (by omega)
        obtain rfl : n = k := by omega
        have HSU := hide (fun X => sdM_any a1 a2 c1 c2 (ptAt L (FM n)).1 (ptAt L (FM n)).2 X oa oc (near_ok (zu HNN _ (zu HPN _ hfk))))
        have hx2 := ptAt_some (L := L) (i := FM n) (by rw [zu HLN]; exact hfk)
        have hsb := side_bd (zu HNN _ hin1) (zu HNN _ hin2) (zu HNN _ (zu HPN _ hfk))
        have hzI := zu HZI
        obtain ⟨fr, hfr⟩ : ∃ fr, FM n = fr := ⟨_, rfl⟩
        rw [hfr] at HSU hx2 hfk hsb hzI ⊢
        obtain ⟨⟨u, v⟩, huv⟩ : ∃ p, ptAt L fr = p := ⟨_, rfl⟩
        rw [huv] at HSU hx2 hsb hzI
        simp only at HSU
        obtain ⟨u0, u1⟩ := pts_at (zu HIx) hx2
        have r1 : (fr : Int) < (n : Int) := by omega
        have r0 : (0 : Int) ≤ (fr : Int) := Int.natCast_nonneg _
        obtain ⟨sd, hsd⟩ : ∃ sd, side (a1, a2) (c1, c2) (u, v) = sd := ⟨_, rfl⟩
        rw [hsd] at HSU hsb hzI
        have hss := mulB (x := sd) (y := sd) (a := 320000) (b := 320000) (by omega) (by omega) (by omega) (by omega)
        have HZI2 := hide hzI
        clear hx2 hfr huv hsd hzI hx
        go_wp2_with fail
        go_region_held3 (fun wx => wx.cell? ⟨b8, 0, none⟩ = some (.int .i64 a1) ∧ wx.cell? ⟨b8, 1, none⟩ = some (.int .i64 a2) ∧ wx.cell? ⟨b9, 0, none⟩ = some (.int .i64 c1) ∧ wx.cell? ⟨b9, 1, none⟩ = some (.int .i64 c2) ∧ wx.cell? ⟨b, fr * 2, none⟩ = some (.int .i64 u) ∧ wx.cell? ⟨b, fr * 2 + 1, none⟩ = some (.int .i64 v))
         (simp (maxDischargeDepth := 12) [go_sem, le1, lt1, *])
         (first
         | (go_at_call 31; with_reducible refine (zu HSU _).mono ?_; rintro e w' ⟨rfl, hb'⟩; have HBx := hide (show Below wr.heap.size wr w' from bc (by repeat (first | exact Below.refl _ _ | refine Below.drew ?_)) hb'); have p0 := keep1 hb' (b := b8) (o := 0) (v := .int .i64 a1) (by simp (maxDischargeDepth := 12) [go_sem, le1, lt1, *]); have p1 := keep1 hb' (b := b8) (o := 1) (v := .int .i64 a2) (by simp (maxDischargeDepth := 12) [go_sem, le1, lt1, *]); have p2 := keep1 hb' (b := b9) (o := 0) (v := .int .i64 c1) (by simp (maxDischargeDepth := 12) [go_sem, le1, lt1, *]); have p3 := keep1 hb' (b := b9) (o := 1) (v := .int .i64 c2) (by simp (maxDischargeDepth := 12) [go_sem, le1, lt1, *]); have p4 := keep1 hb' (b := b) (o := fr * 2) (v := .int .i64 u) (by simp (maxDischargeDepth := 12) [go_sem, le1, lt1, *]); have p5 := keep1 hb' (b := b) (o := fr * 2 + 1) (v := .int .i64 v) (by simp (maxDischargeDepth := 12) [go_sem, le1, lt1, *]); clear hb'))
        have HXY := hide (bc (zu HX) (zu HBx))
        have hbX : b < w'.heap.size := by have := (zu V6y).lt; have := (zu HXY).size; omega
        have HIy := hide ((zu HIx).below (zu HBx) (by have := (zu V6y).lt; have := (zu HX).size; omega))
        have V6z := hide ((zu V6y).bel (zu HXY))
        have HWz : Hid (Below b6 W3 w') := hide ((zu HWy).trans ((zu HXY).mono (by have := (zu V6y).lt; omega)))
        have H8c0 := hide p0
        have H8c1 := hide p1
        have H9c0 := hide p2
        have H9c1 := hide p3
        clear e0 e1 g0 g1 u0 u1 p0 p1 p2 p3 p4 p5
        go_wp2_with fail
        refine Go.Code.wp_mono (Only.to (fun _ _ h => h)) (zm25 (ja := fi L (a1, a2)) (jb := fi L (c1, c2)) (dd := sqd (a1, a2) (c1, c2)) H8c0 H8c1 H9c0 H9c1 (hide (wr64 (by omega) (by omega)))
         (hide fun X hX => fstM_any b cap n L a1 a2 _ X HLN (by omega) (Nat.lt_of_lt_of_le hbX hX.size) (hide ((zu HIy).below hX hbX)) HFA)
         (hide fun X hX => fstM_any b cap n L c1 c2 _ X HLN (by omega) (Nat.lt_of_lt_of_le hbX hX.size) (hide ((zu HIy).below hX hbX)) HFC)
         (hide fun X hX => sqM_any a1 a2 c1 c2 X (by omega) (by omega)) (fun M W9 hW9 hM1 hM2 => ?_))
        have V6q := hide ((zu V6z).bel hW9)
        have HWq : Hid (Below b6 W3 W9) := hide ((zu HWz).trans (hW9.mono (by have := (zu V6z).lt; omega)))
        have hMb : b6 < M := by have := (zu V6z).lt; omega
        have VM := hide hM2
        have t0 := hM2.cell (m := 0) rfl
        have t1 := hM2.cell (m := 1) rfl
        have t2 := hM2.cell (m := 2) rfl
        have t3 := hM2.cell (m := 3) rfl
        have t4 := hM2.cell (m := 4) rfl
        have hzN : (z i).N = sd * sd ∧ (z i).D = sqd (a1, a2) (c1, c2) := by rw [zu HZI2]; exact ⟨rfl, rfl⟩
        have HZV : Hid ((z i).A = (fi L (a1, a2) : Int) ∧ (z i).B = (fi L (c1, c2) : Int) ∧ (z i).C = (fr : Int) ∧ (z i).N = sd * sd ∧ (z i).D = sqd (a1, a2) (c1, c2)) := hide (by rw [zu HZI2]; exact ⟨rfl, rfl, rfl, rfl, rfl⟩)
        have hbo := bsc_ok (z := z) (n := m) (zu HZK) (i := i) hi
        have hp1 := nd_bd (zu HZKi).n hbo.d
        have hp2 := nd_bd hbo.n (zu HZKi).d
        rw [hzN.1] at hp1
        rw [hzN.2] at hp2
        have o0 := (zu V6q).cell (m := 0) rfl
        have o1 := (zu V6q).cell (m := 1) rfl
        have o2 := (zu V6q).cell (m := 2) rfl
        have o3 := (zu V6q).cell (m := 3) rfl
        have o4 := (zu V6q).cell (m := 4) rfl
        have of := (zu V6q).frozen
        clear hW9 hM1 hM2 hbo
        by_cases hi0 : i = 0
        ·have hiz : ((i : Int) == 0) = true := by rw [hi0]; rfl
         have HBN : Hid (bsc z (i + 1) = z i) := hide (by rw [hi0]; exact bsc_first z)
         generalize sd * sd = ss at *
         generalize sqd (a1, a2) (c1, c2) = dd at *
         generalize bsc z i = bz at *
         clear hi0
         go_wp2_with fail
         go_roundw
         case rel =>
          refine ⟨i + 1, by simp, h, ?_, ?_⟩
          ·rw [zu HBN, (zu HZV).1, (zu HZV).2.1, (zu HZV).2.2.1, (zu HZV).2.2.2.1, (zu HZV).2.2.2.2]
           exact (((((zu V6q).set 0 _).set 1 _).set 2 _).set 3 _).set 4 _
          ·exact Below.setCell (Below.setCell (Below.setCell (Below.setCell (Below.setCell (zu HWq) (Nat.le_refl _) _) (Nat.le_refl _) _) (Nat.le_refl _) _) (Nat.le_refl _) _) (Nat.le_refl _) _
         case measure => simp only [intOf]; omega
        ·have hiz : ((i : Int) == 0) = false := by rw [beq_eq_false_iff_ne]; omega
         have HBN : Hid (bsc z (i + 1) = if sd * sd * (bsc z i).D < (bsc z i).N * sqd (a1, a2) (c1, c2) then z i else bsc z i) := hide (by rw [bsc_succ z hi0, hzN.1, hzN.2])
         obtain ⟨ss, hss'⟩ : ∃ ss, sd * sd = ss := ⟨_, rfl⟩
         obtain ⟨dd, hdd'⟩ : ∃ dd, sqd (a1, a2) (c1, c2) = dd := ⟨_, rfl⟩
         rw [hss'] at hp1 HBN t3 HZV ⊢
         rw [hdd'] at hp2 HBN t4 HZV ⊢
         obtain ⟨⟨y0, y1, y2, y3, y4⟩, hbz⟩ : ∃ bz, bsc z i = bz := ⟨_, rfl⟩
         rw [hbz] at hp1 hp2 HBN o0 o1 o2 o3 o4 V6q
         simp only at hp1 hp2 HBN o0 o1 o2 o3 o4 V6q
         have w1 : IntKind.i64.wrap (ss * y4) = ss * y4 := wr64 (by omega) (by omega)
         have w2 : IntKind.i64.wrap (y3 * dd) = y3 * dd := wr64 (by omega) (by omega)
         have HBZ := hide hbz
         clear hi0 hss' hdd' hzN hss hbz hp1 hp2
         by_cases hlt : ss * y4 < y3 * dd
         ·have dl : decide (ss * y4 < y3 * dd) = true := decide_eq_true hlt
          go_wp2_with fail
          go_roundw
          case rel =>
           refine ⟨i + 1, by simp, h, ?_, ?_⟩
           ·rw [zu HBN, if_pos hlt, (zu HZV).1, (zu HZV).2.1, (zu HZV).2.2.1, (zu HZV).2.2.2.1, (zu HZV).2.2.2.2]
            exact (((((zu V6q).set 0 _).set 1 _).set 2 _).set 3 _).set 4 _
           ·exact Below.setCell (Below.setCell (Below.setCell (Below.setCell (Below.setCell (zu HWq) (Nat.le_refl _) _) (Nat.le_refl _) _) (Nat.le_refl _) _) (Nat.le_refl _) _) (Nat.le_refl _) _
          case measure => simp only [intOf]; omega
         ·have dl : decide (ss * y4 < y3 * dd) = false := decide_eq_false hlt
          go_wp2_with fail
          go_roundw
          case rel =>
           refine ⟨i + 1, by simp, h, ?_, zu HWq⟩
           rw [zu HBN, if_neg (by omega)]
           first | exact zu V6q | (rw [zu HBZ]; exact zu V6q)
          case measure => simp only [intOf]; omega
     ·have iz : decide ((i : Int) < (m : Int)) = false := decide_eq_false (by omega)
      obtain rfl : m = i := by omega
      have H2x : Hid (cb wr w.heap.size 26 z5) := hide ((hw.block w.heap.size hwb).trans (zu H23))
      have HBX : Hid (Below w.heap.size w wr) := hide ((zu HB3).trans (hw.mono (by omega)))
      have o0 := (zu H2x).cell (m := 0) rfl
      have o1 := (zu H2x).cell (m := 1) rfl
      have o2 := (zu H2x).cell (m := 2) rfl
      have o3 := (zu H2x).cell (m := 3) rfl
      have o4 := (zu H2x).cell (m := 4) rfl
      have of := (zu H2x).frozen
      obtain ⟨bz, hbz⟩ : ∃ bz, bsc z m = bz := ⟨_, rfl⟩
      rw [hbz] at hv6 HZ3
      have t0 := hv6.cell (m := 0) rfl
      have t1 := hv6.cell (m := 1) rfl
      have t2 := hv6.cell (m := 2) rfl
      have t3 := hv6.cell (m := 3) rfl
      have t4 := hv6.cell (m := 4) rfl
      clear hv6 hw hbz HV6 HW
      go_wp2_with fail
      have V4 := hide (((((zu H2x).set 0 (.int .i64 bz.A)).set 1 (.int .i64 bz.B)).set 2 (.int .i64 bz.C)).set 3 (.int .i64 bz.N) |>.set 4 (.int .i64 bz.D))
      have s0 := (zu V4).cell (m := 0) rfl
      have s1 := (zu V4).cell (m := 1) rfl
      have s2 := (zu V4).cell (m := 2) rfl
      have s3 := (zu V4).cell (m := 3) rfl
      have s4 := (zu V4).cell (m := 4) rfl
      refine bodyPost_ret (v := .tuple #[.agg #[.int .i64 bz.A, .int .i64 bz.B, .int .i64 bz.C, .int .i64 bz.N, .int .i64 bz.D], .int .i64 0]) (by simp [results, Try.results8, go_sem, s0, s1, s2, s3, s4]) rfl ⟨by rw [zu HZ3]; rfl, ?_⟩
      exact Below.setCell (Below.setCell (Below.setCell (Below.setCell (Below.setCell (zu HBX) (Nat.le_refl _) _) (Nat.le_refl _) _) (Nat.le_refl _) _) (Nat.le_refl _) _) (Nat.le_refl _) _
  ·have hmc : mcC L = 1 := by unfold mcC; rw [if_neg h4, if_neg hall]
   have HZR : Hid (zoR L = ⟨0, 0, 0, 0, 0⟩) := hide (by unfold zoR; rw [if_pos (by rw [hmc]; decide)])
   have hnf : (decide (1 ≤ L.length ∧ L.length ≤ 200) && L.all nrP) = false := by
    cases h9 : (decide (1 ≤ L.length ∧ L.length ≤ 200) && L.all nrP) with
    | false => rfl
    | true =>
     rw [Bool.and_eq_true, decide_eq_true_eq] at h9
     exact absurd ⟨h9.1.1, h9.1.2, h9.2⟩ hall
   rw [hnf] at HNR
   rw [hmc]
   clear hI h4 hall hnf hmc
   go_enter Try.func8, Try.ntmps8
   go_wp2_with fail
   generalize w.alloc (.cells #[.int .i64 0, .int .i64 0, .int .i64 0, .int .i64 0, .int .i64 0] 26) = W0 at *
   refine (zu HNR).mono ?_
   rintro e W1 ⟨rfl, hs1⟩
   have H2y := hide ((zu H2).bel hs1.bel)
   have HBY := hide (bc (zu HB0) hs1.bel)
   have o0 := (zu H2y).cell (m := 0) rfl
   have o1 := (zu H2y).cell (m := 1) rfl
   have o2 := (zu H2y).cell (m := 2) rfl
   have o3 := (zu H2y).cell (m := 3) rfl
   have o4 := (zu H2y).cell (m := 4) rfl
   have of := (zu H2y).frozen
   clear hs1
   go_wp2_with fail
   have V4 := hide (((((zu H2y).set 0 (.int .i64 0)).set 1 (.int .i64 0)).set 2 (.int .i64 0)).set 3 (.int .i64 0) |>.set 4 (.int .i64 0))
   have s0 := (zu V4).cell (m := 0) rfl
   have s1 := (zu V4).cell (m := 1) rfl
   have s2 := (zu V4).cell (m := 2) rfl
   have s3 := (zu V4).cell (m := 3) rfl
   have s4 := (zu V4).cell (m := 4) rfl
   refine bodyPost_ret (v := .tuple #[.agg #[.int .i64 0, .int .i64 0, .int .i64 0, .int .i64 0, .int .i64 0], .int .i64 1]) (by simp [results, Try.results8, go_sem, s0, s1, s2, s3, s4]) rfl ⟨by rw [zu HZR]; rfl, ?_⟩
   exact Below.setCell (Below.setCell (Below.setCell (Below.setCell (Below.setCell (zu HBY) (Nat.le_refl _) _) (Nat.le_refl _) _) (Nat.le_refl _) _) (Nat.le_refl _) _) (Nat.le_refl _) _
end Go.Proofs.Ytdcecfgmfmpeeaa
