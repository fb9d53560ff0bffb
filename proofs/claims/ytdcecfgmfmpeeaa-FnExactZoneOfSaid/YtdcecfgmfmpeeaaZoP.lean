/-
  The program's ZoneOf.
-/
import Derived.Test.YtdcecfgmfmpeeaaZp8
import Derived.Test.YtdcecfgmfmpeeaaZnr
import Derived.Test.YtdcecfgmfmpeeaaHul
namespace Go.Proofs.Ytdcecfgmfmpeeaa
open Go.ChangeShapes Go.WideShapes Go.ChangeAt Go.RowKit
set_option linter.unusedVariables false
set_option linter.unusedSimpArgs false

theorem fold_mem (L : List Pt) : ∀ (s : List Pt) (q : Pt), q ∈ L.foldl (fun rs p => p :: popR rs p) s → q ∈ s ∨ q ∈ L := by
  induction L with
  | nil => intro s q h; exact .inl h
  | cons p L ih =>
    intro s q h
    rcases ih _ q h with h1 | h1
    · rcases List.mem_cons.1 h1 with h2 | h2
      · exact .inr (by simp [h2])
      · exact .inl (popR_mem s p q h2)
    · exact .inr (by simp [h1])
theorem half_mem {L : List Pt} {q : Pt} (h : q ∈ half L) : q ∈ L := by
  unfold half halfR at h
  rw [List.mem_reverse] at h
  rcases fold_mem L [] q h with h1 | h1
  · cases h1
  · exact h1
theorem hull_mem {U : List Pt} {q : Pt} (h : q ∈ hullM U) : q ∈ U := by
  unfold hullM at h
  split at h
  · exact h
  · rcases List.mem_append.1 h with h1 | h1
    · exact half_mem ((List.dropLast_sublist _).subset h1)
    · have := half_mem ((List.dropLast_sublist _).subset h1)
      rwa [List.mem_reverse] at this
theorem hull_in {L : List Pt} {q : Pt} (h : q ∈ hullM (srtU L)) : q ∈ L := ((srtU_facts L).2 q).1 (hull_mem h)
theorem half_some {a : Pt} {L : List Pt} : 1 ≤ (half (a :: L)).length := half_pos _ (by simp)
theorem hull_some {U : List Pt} (h : U ≠ []) : 1 ≤ (hullM U).length := by
  unfold hullM
  split
  · cases U with
    | nil => exact absurd rfl h
    | cons a U => simp
  · rename_i h3
    cases U with
    | nil => exact absurd rfl h
    | cons a U =>
      cases U with
      | nil => simp at h3
      | cons b U =>
        have := (half_facts (a := a) (L := b :: U) (by simp)).2.2.1
        rw [List.length_append, List.length_dropLast]
        omega
theorem hull_sides {L : List Pt} (h3 : 3 ≤ (hullM (srtU L)).length) {i : Nat} (hi : i < (hullM (srtU L)).length) : ∀ q ∈ L, 0 ≤ side (ptAt (hullM (srtU L)) i) (ptAt (hullM (srtU L)) ((i + 1) % (hullM (srtU L)).length)) q := by
  intro q hq
  have hU : 3 ≤ (srtU L).length := by
    by_cases h : (srtU L).length < 3
    · have : hullM (srtU L) = srtU L := by unfold hullM; rw [if_pos h]
      rw [this] at h3
      omega
    · omega
  exact hull_left (srtU_facts L).1 hU (ptAt_some hi) (ptAt_some (Nat.mod_lt _ (by omega))) q (((srtU_facts L).2 q).2 hq)
theorem nr_near {L : List Pt} (h : L.all nrP = true) : Near L := fun p hp => by
  have := List.all_eq_true.1 h p hp
  unfold nrP at this
  exact of_decide_eq_true this
theorem nr_ptok {L : List Pt} (h : L.all nrP = true) : L.all ptOk = true := List.all_eq_true.2 (fun p hp => near_ok (nr_near h p hp))
def zhl (L : List Pt) (i : Nat) : Zo := zn L (ptAt (hullM (srtU L)) i) (ptAt (hullM (srtU L)) ((i + 1) % (hullM (srtU L)).length))
/-- the strip -/
def zoR (L : List Pt) : Zo := if mcC L ≠ 0 then ⟨0, 0, 0, 0, 0⟩ else if (hullM (srtU L)).length < 3 then ⟨fi L (ptAt (hullM (srtU L)) 0), fi L (ptAt (hullM (srtU L)) ((hullM (srtU L)).length - 1)), fi L (ptAt (hullM (srtU L)) 0), 0, max 1 (sqd (ptAt (hullM (srtU L)) 0) (ptAt (hullM (srtU L)) ((hullM (srtU L)).length - 1)))⟩ else bst (zhl L) ((hullM (srtU L)).length - 1)
theorem zon_info : (Try.prog.info? 26).map (fun i => (i.zero, i.size, i.bytes)) = some (some (.agg #[.int .i64 0, .int .i64 0, .int .i64 0, .int .i64 0, .int .i64 0]), 5, 40) := by kernel_rfl
/-- all but one block is as it was -/
structure Mz (g : Nat) (w w' : World) : Prop where
  os : w'.os = w.os
  tape : w'.tape = w.tape
  output : w'.output = w.output
  size : w.heap.size ≤ w'.heap.size
  block : ∀ k, k < w.heap.size → k ≠ g → w'.heap[k]? = w.heap[k]?
theorem Mz.of_bel {g : Nat} {w w' : World} (h : Below w.heap.size w w') : Mz g w w' := ⟨h.os, h.tape, h.output, h.size, fun k hk _ => h.block k hk⟩
theorem Mz.trans {g : Nat} {x y z : World} (h : Mz g x y) (k : Mz g y z) : Mz g x z :=
  ⟨k.os.trans h.os, k.tape.trans h.tape, k.output.trans h.output, Nat.le_trans h.size k.size, fun i hi h1 => (k.block i (Nat.lt_of_lt_of_le hi h.size) h1).trans (h.block i hi h1)⟩
theorem Mz.set {g : Nat} {x y : World} (h : Mz g x y) (o : Nat) (v : Value) : Mz g x (y.setCell ⟨g, o, none⟩ v) :=
  h.trans ⟨rfl, rfl, rfl, by simp [World.setCell], fun k _ h1 => Below.heap_setCell _ _ _ _ h1⟩
theorem Mz.bel {g B : Nat} {x y : World} (h : Mz g x y) (hB : B ≤ x.heap.size) (hg : B ≤ g) : Below B x y := ⟨h.os, h.tape, h.output, h.size, fun k hk => h.block k (by omega) (by omega)⟩
theorem iblk_at {w : World} {g t : Nat} {F : List Int} (h : iblk w g t F) : IntsAt w g 0 F := h.ints
set_option maxHeartbeats 4000000 in
set_option maxRecDepth 100000 in
theorem zoP_any (b cap : Nat) (L : List Pt) (w : World) (hn : L.length ≤ 1048576) (hb : b < w.heap.size) (hI : IntsAt w b 0 (flat2 L)) :
    Calls Try.prog 7 #[.slice (some ⟨b, 0, none⟩) L.length cap] w fun e w' => e = .returned (.tuple #[zoV (zoR L), .int .i64 (mcC L)]) ∧ Below w.heap.size w w' := by
  have HB0 := hide (ba (Below.refl w.heap.size w) (.cells #[.int .i64 0, .int .i64 0, .int .i64 0, .int .i64 0, .int .i64 0] 26))
  have H2 : Hid (cb (w.alloc (.cells #[.int .i64 0, .int .i64 0, .int .i64 0, .int .i64 0, .int .i64 0] 26)) w.heap.size 26 z5) := hide (cb_new w 26 z5 _ rfl)
  have HMC := hide (mcP_any b cap L (w.alloc (.cells #[.int .i64 0, .int .i64 0, .int .i64 0, .int .i64 0, .int .i64 0] 26)) (by omega) (Nat.lt_of_lt_of_le hb (unhide HB0).size) (ptsAt_flat (hI.below (unhide HB0) hb)))
  have HI := hide hI
  by_cases h0 : mcC L = 0
  · have hall : 1 ≤ L.length ∧ L.length ≤ 200 ∧ L.all nrP = true := by
      unfold mcC at h0
      split at h0
      · omega
      · split at h0
        · assumption
        · omega
    have hN := nr_near hall.2.2
    have hLne : L ≠ [] := fun e => by rw [e] at hall; simp at hall
    have HHU := hide (fun X (hX : Below w.heap.size w X) => hullI_any b cap L X (by omega) (Nat.lt_of_lt_of_le hb hX.size) (hI.below hX hb))
    have hhC : hullC L = 0 := by unfold hullC; rw [if_neg (by omega), if_pos ⟨hall.1, hall.2.1, nr_ptok hall.2.2⟩]
    have hhL : hullL L = hullM (srtU L) := by unfold hullL; rw [if_neg (by omega), if_pos ⟨hall.1, hall.2.1, nr_ptok hall.2.2⟩]
    rw [hhC, hhL] at HHU
    have hm1 : 1 ≤ (hullM (srtU L)).length := hull_some (srtU_ne hLne)
    have hm400 : (hullM (srtU L)).length ≤ 400 := by
      have h1 := hullM_le (srtU L)
      have h2 := srtU_len L
      omega
    have HHI := hide (fun q (h : q ∈ hullM (srtU L)) => hull_in (L := L) h)
    have HHS := hide (fun h3 i hi => hull_sides (L := L) h3 (i := i) hi)
    have HZR : Hid (zoR L = if (hullM (srtU L)).length < 3 then ⟨fi L (ptAt (hullM (srtU L)) 0), fi L (ptAt (hullM (srtU L)) ((hullM (srtU L)).length - 1)), fi L (ptAt (hullM (srtU L)) 0), 0, max 1 (sqd (ptAt (hullM (srtU L)) 0) (ptAt (hullM (srtU L)) ((hullM (srtU L)).length - 1)))⟩ else bst (fun i => zn L (ptAt (hullM (srtU L)) i) (ptAt (hullM (srtU L)) ((i + 1) % (hullM (srtU L)).length))) ((hullM (srtU L)).length - 1)) := hide (by unfold zoR; rw [if_neg (by simp [h0])]; rfl)
    rw [h0] at HMC ⊢
    obtain ⟨Hl, hHl⟩ : ∃ Hl, hullM (srtU L) = Hl := ⟨_, rfl⟩
    rw [hHl] at HHU hm1 hm400 HHI HHS HZR
    obtain ⟨m, hm⟩ : ∃ m, Hl.length = m := ⟨_, rfl⟩
    rw [hm] at HHU hm1 hm400 HHS HZR
    have HHM := hide hm
    obtain ⟨n, hLn⟩ : ∃ n, L.length = n := ⟨_, rfl⟩
    have HLN := hide hLn
    rw [hLn] at HMC HHU hn hall ⊢
    clear hhC hhL hHl hm hI h0 hLn
    go_enter Try.func7, Try.ntmps7
    go_wp2_with fail
    generalize w.alloc (.cells #[.int .i64 0, .int .i64 0, .int .i64 0, .int .i64 0, .int .i64 0] 26) = W0 at *
    refine (unhide HMC).mono ?_
    rintro e W1 ⟨rfl, hb1⟩
    have H2a := hide ((unhide H2).bel hb1)
    have HBa := hide (bc (unhide HB0) hb1)
    clear hb1 H2 HB0 HMC
    go_wp2_with fail
    refine (unhide HHU _ (unhide HBa)).mono ?_
    rintro e W2 ⟨v, rfl, hr2, hb2⟩
    obtain ⟨gh, ch, rfl, hgh1, hgh2, hhi, hcm1, hcm2⟩ := hr2.full (by omega)
    have HHX := hide hhi
    have H2b := hide ((unhide H2a).bel hb2)
    have HBb := hide (bc (unhide HBa) hb2)
    have HIb := hide ((unhide HI).below (unhide HBb) hb)
    have hbb : b < W2.heap.size := Nat.lt_of_lt_of_le hb (unhide HBb).size
    have hwb : w.heap.size < W2.heap.size := (unhide H2b).lt
    clear hr2 hb2 hhi H2a HBa HHU HI
    by_cases h3 : m < 3
    · have d3 : decide ((m : Int) < 3) = true := decide_eq_true (by omega)
      obtain ⟨q, hq⟩ : ∃ q, m - 1 = q := ⟨_, rfl⟩
      have wq : IntKind.i64.wrap ((m : Int) - 1) = (q : Int) := (wr64 (by omega) (by omega)).trans (by omega)
      have hp0 := ptAt_some (L := Hl) (i := 0) (by rw [unhide HHM]; omega)
      have hpq := ptAt_some (L := Hl) (i := q) (by rw [unhide HHM]; omega)
      have ma := unhide HHI _ (List.mem_of_getElem? hp0)
      have mc := unhide HHI _ (List.mem_of_getElem? hpq)
      have HZ3 : Hid (zoR L = ⟨fi L (ptAt Hl 0), fi L (ptAt Hl q), fi L (ptAt Hl 0), 0, max 1 (sqd (ptAt Hl 0) (ptAt Hl q))⟩) := hide (by rw [unhide HZR, if_pos h3, hq])
      obtain ⟨⟨a1, a2⟩, ha⟩ : ∃ a, ptAt Hl 0 = a := ⟨_, rfl⟩
      obtain ⟨⟨c1, c2⟩, hc⟩ : ∃ c, ptAt Hl q = c := ⟨_, rfl⟩
      rw [ha] at hp0 ma HZ3
      rw [hc] at hpq mc HZ3
      obtain ⟨A0, A1⟩ := pts_at (unhide HHX) hp0
      obtain ⟨C0, C1⟩ := pts_at (unhide HHX) hpq
      simp only [Nat.zero_mul, Nat.zero_add] at A0 A1
      have HA0 := hide A0
      have HA1 := hide A1
      have HC0 := hide C0
      have HC1 := hide C1
      have hqm : q < m := by omega
      clear ha hc hp0 hpq A0 A1 C0 C1 hq
      go_wp2_with fail
      refine Go.Code.wp_mono (Only.to (fun _ _ h => h)) (zp8 (z := ⟨fi L (a1, a2), fi L (c1, c2), fi L (a1, a2), 0, max 1 (sqd (a1, a2) (c1, c2))⟩) hwb HA0 HA1 HC0 HC1 (hide wq) (hide (by omega)) (hide (by omega)) (hide (unhide H2b).zero) (hide (unhide H2b).frozen)
        (hide fun X hX => fzP_any b cap n L a1 a2 c1 c2 X (unhide HLN) (by omega) hN ma mc (Nat.lt_of_lt_of_le hbb hX.size) ((unhide HIb).below hX hbb)) (fun W9 hW9 => ?_))
      have V4 := hide ((((((unhide H2b).bel hW9).set 0 (.int .i64 (fi L (a1, a2) : Int))).set 1 (.int .i64 (fi L (c1, c2) : Int))).set 2 (.int .i64 (fi L (a1, a2) : Int))).set 3 (.int .i64 0) |>.set 4 (.int .i64 (max 1 (sqd (a1, a2) (c1, c2)))))
      have HB9 := hide (bc (unhide HBb) hW9)
      clear hW9
      have s0 := (unhide V4).cell (m := 0) rfl
      have s1 := (unhide V4).cell (m := 1) rfl
      have s2 := (unhide V4).cell (m := 2) rfl
      have s3 := (unhide V4).cell (m := 3) rfl
      have s4 := (unhide V4).cell (m := 4) rfl
      go_wp2_with fail
      refine bodyPost_ret (v := .tuple #[.agg #[.int .i64 (fi L (a1, a2) : Int), .int .i64 (fi L (c1, c2) : Int), .int .i64 (fi L (a1, a2) : Int), .int .i64 0, .int .i64 (max 1 (sqd (a1, a2) (c1, c2)))], .int .i64 0]) (by simp [results, Try.results7, go_sem, s0, s1, s2, s3, s4]) rfl ⟨by rw [unhide HZ3]; rfl, ?_⟩
      exact Below.setCell (Below.setCell (Below.setCell (Below.setCell (Below.setCell (unhide HB9) (Nat.le_refl _) _) (Nat.le_refl _) _) (Nat.le_refl _) _) (Nat.le_refl _) _) (Nat.le_refl _) _
    · have d3 : decide ((m : Int) < 3) = false := decide_eq_false (by omega)
      obtain ⟨z, hz⟩ : ∃ z : Nat → Zo, (fun i => zn L (ptAt Hl i) (ptAt Hl ((i + 1) % m))) = z := ⟨_, rfl⟩
      have hze : ∀ i, zn L (ptAt Hl i) (ptAt Hl ((i + 1) % m)) = z i := fun i => by rw [← hz]
      have HZ3 : Hid (zoR L = bst z (m - 1)) := hide (by rw [unhide HZR, if_neg h3, hz])
      have HZK : Hid (∀ i, i < m → ZoOk (z i)) := hide (fun i hi => by
        rw [← hze]
        exact zn_ok hN (by rw [unhide HLN]; exact hall.1) (unhide HHI _ (List.mem_of_getElem? (ptAt_some (by rw [unhide HHM]; exact hi)))) (unhide HHI _ (List.mem_of_getElem? (ptAt_some (by rw [unhide HHM]; exact Nat.mod_lt _ (by omega))))))
      have HZA : Hid (∀ i X, i < m → b < X.heap.size → IntsAt X b 0 (flat2 L) → Calls Try.prog 24 #[.slice (some ⟨b, 0, none⟩) n cap, .agg #[.int .i64 (ptAt Hl i).1, .int .i64 (ptAt Hl i).2, .int .i64 (ptAt Hl ((i + 1) % m)).1, .int .i64 (ptAt Hl ((i + 1) % m)).2]] X fun e w' => e = .returned (zoV (z i)) ∧ Below X.heap.size X w') := hide (fun i X hi hbX hIX => by
        rw [← hze]
        exact zaP_any b cap n L _ _ _ _ X (unhide HLN) hall.1 hall.2.1 hN (unhide HHI _ (List.mem_of_getElem? (ptAt_some (by rw [unhide HHM]; exact hi)))) (unhide HHI _ (List.mem_of_getElem? (ptAt_some (by rw [unhide HHM]; exact Nat.mod_lt _ (by omega))))) (unhide HHS (by omega) i hi) hbX hIX)
      have HSO := hide (fun X (hX : Below W2.heap.size W2 X) => sidesOf_any gh 0 ch m Hl X HHM hm400 (Nat.lt_of_lt_of_le hgh2 hX.size) (hide (ptsAt_flat ((unhide HHX).below hX hgh2))))
      have HSA : Hid (∀ i, i < m → (flatG (sides Hl))[i * 4]? = some (ptAt Hl i).1 ∧ (flatG (sides Hl))[i * 4 + 1]? = some (ptAt Hl i).2 ∧ (flatG (sides Hl))[i * 4 + 2]? = some (ptAt Hl ((i + 1) % m)).1 ∧ (flatG (sides Hl))[i * 4 + 3]? = some (ptAt Hl ((i + 1) % m)).2) := hide fun i hi => by
        have h1 := flatG_at (sides Hl) i _ (sides_at Hl i (by rw [unhide HHM]; exact hi))
        rw [unhide HHM] at h1
        exact h1
      have hmk := fun W => make_ints (P := Try.prog) 55 26 5 40 m Try.underlying55 (.agg #[.int .i64 0, .int .i64 0, .int .i64 0, .int .i64 0, .int .i64 0]) (by rfl) (by omega) zon_info (by omega) (by omega) W
      have HFL : Hid ((flatZ z m).length = m * 5) := hide (flatZ_len z m)
      have HFA := hide (fun i (h : i < m) => flatZ_at z m i h)
      obtain ⟨F, hF⟩ : ∃ F, flatZ z m = F := ⟨_, rfl⟩
      rw [hF] at HFL
      simp only [hF] at HFA
      have HFE := hide hF
      generalize flatG (sides Hl) = G at *
      generalize hzz : zeros (m * 5) = Z at hmk
      have HZZ := hide hzz
      clear hzz hF hz hze
      go_wp2_with fail
      have HG := hide (iblk_new W2 26 Z)
      have HBZ := hide (ba (Below.refl W2.heap.size W2) (.cells (Z.map (Value.int .i64)).toArray 26))
      clear hmk
      try go_wp2_with fail
      generalize W2.alloc (.cells (Z.map (Value.int .i64)).toArray 26) = W3 at *
      obtain ⟨gz, hgz⟩ : ∃ gz, W2.heap.size = gz := ⟨_, rfl⟩
      refine (unhide HSO _ (unhide HBZ)).mono ?_
      rintro e W4 ⟨⟨gs, rfl, hgs1, hgs2⟩, hb4⟩
      have HGI := hide hgs2.ints
      have HGZ : Hid (iblk W4 gz 26 Z) := hide (by rw [← hgz]; exact (unhide HG).bel hb4)
      have HB4 := hide (bc (unhide HBZ) hb4)
      have hgsl := hgs2.lt
      have hgzs : gz < gs := by have := (unhide HG).lt; omega
      have HBB4 : Hid (Below w.heap.size w W4) := hide (bc (unhide HBb) (unhide HB4))
      have H2d := hide ((unhide H2b).bel (unhide HB4))
      have HI4 := hide ((unhide HIb).below (unhide HB4) hbb)
      have hb4l : b < W4.heap.size := Nat.lt_of_lt_of_le hbb (unhide HB4).size
      have hbz : b ≠ gz := by omega
      have hwz : w.heap.size ≠ gz := by omega
      have hwzl : w.heap.size < gz := by omega
      rw [hgz]
      clear hgs1 hgs2 hb4 HG HBZ HSO HB4 H2b HIb HBb hgz
      go_wp2_with fail
      go_loopw [46] (fun zz X => ∃ i : Nat, zz = .int .i64 (i : Int) ∧ i ≤ m ∧ iblk X gz 26 (F.take (i * 5) ++ zeros (F.length - i * 5)) ∧ Mz gz W4 X) (fun zz _ => m - (intOf zz).toNat)
      case atStart =>
        refine ⟨0, rfl, Nat.zero_le _, ?_, Mz.of_bel (Below.refl _ _)⟩
        have e : F.take (0 * 5) ++ zeros (F.length - 0 * 5) = Z := by rw [unhide HFL, ← unhide HZZ]; simp
        rw [e]
        exact unhide HGZ
      case round =>
        obtain ⟨i, rfl, hi, hzb, hw⟩ := hrel
        have HZB := hide hzb
        have HW := hide hw
        by_cases h : i < m
        · have i1 : (i : Int) < (m : Int) := by omega
          have i0 : (0 : Int) ≤ (i : Int) := Int.natCast_nonneg _
          have iz : decide ((i : Int) < (m : Int)) = true := decide_eq_true i1
          obtain ⟨g0, g1, g2, g3⟩ := unhide HSA i h
          have hgx : IntsAt wr gs 0 G := fun j v hj => (World.cell?_of_block (w := W4) (a := ⟨gs, 0 + j, none⟩) (hw.block gs hgsl (by omega))).trans ((unhide HGI) j v hj)
          have x0 := hgx _ _ g0
          have x1 := hgx _ _ g1
          have x2 := hgx _ _ g2
          have x3 := hgx _ _ g3
          simp only [Nat.zero_add] at x0 x1 x2 x3
          have hIw : IntsAt wr b 0 (flat2 L) := fun j v hj => (World.cell?_of_block (w := W4) (a := ⟨b, 0 + j, none⟩) (hw.block b hb4l hbz)).trans ((unhide HI4) j v hj)
          have hbw : b < wr.heap.size := Nat.lt_of_lt_of_le hb4l hw.size
          have HZAi := hide (fun X h1 h2 => unhide HZA i X h h1 h2)
          have HAT := hide (unhide HFA i h)
          obtain ⟨⟨p1, p2⟩, hp⟩ : ∃ p, ptAt Hl i = p := ⟨_, rfl⟩
          obtain ⟨⟨q1, q2⟩, hq⟩ : ∃ q, ptAt Hl ((i + 1) % m) = q := ⟨_, rfl⟩
          rw [hp] at x0 x1 HZAi
          rw [hq] at x2 x3 HZAi
          simp only at x0 x1 x2 x3 HZAi
          unfold zoV at HZAi
          obtain ⟨⟨zA, zB, zC, zN, zD⟩, hzi⟩ : ∃ q, z i = q := ⟨_, rfl⟩
          rw [hzi] at HZAi HAT
          simp only at HZAi HAT
          have HXW : Hid (Below wr.heap.size wr (wr.alloc (.cells #[.int .i64 p1, .int .i64 p2, .int .i64 q1, .int .i64 q2] 54))) := hide (ba (Below.refl _ _) _)
          have V9 := hide (cb_new wr 54 [.int .i64 p1, .int .i64 p2, .int .i64 q1, .int .i64 q2] wr.heap.size rfl)
          have HIx := hide (hIw.below (unhide HXW) hbw)
          have hbx : b < (wr.alloc (.cells #[.int .i64 p1, .int .i64 p2, .int .i64 q1, .int .i64 q2] 54)).heap.size := Nat.lt_of_lt_of_le hbw (unhide HXW).size
          have HZBx := hide (hzb.bel (unhide HXW))
          have HWx := hide ((unhide HW).trans (Mz.of_bel (unhide HXW)))
          clear g0 g1 g2 g3 hgx hp hq hzi hzb hw HW HZB hIw
          go_wp2_with fail
          generalize wr.alloc (.cells #[.int .i64 p1, .int .i64 p2, .int .i64 q1, .int .i64 q2] 54) = Wx at *
          generalize wr.heap.size = b9 at *
          have n0 := (unhide V9).cell (m := 0) rfl
          have n1 := (unhide V9).cell (m := 1) rfl
          have n2 := (unhide V9).cell (m := 2) rfl
          have n3 := (unhide V9).cell (m := 3) rfl
          clear x0 x1 x2 x3
          try go_wp2_with fail
          refine (unhide HZAi Wx hbx (unhide HIx)).mono ?_
          rintro e Wy ⟨rfl, hby⟩
          have HZBy := hide ((unhide HZBx).bel hby)
          have HWy := hide ((unhide HWx).trans (Mz.of_bel hby))
          have j0 : i * 5 + 4 < F.length := by rw [unhide HFL]; omega
          have m0' : Wy.cell? ⟨gz, i * 5, none⟩ = some (.int .i64 0) := (unhide HZBy).cell (fill_at F (i * 5) 0 (by omega))
          have m1' : Wy.cell? ⟨gz, i * 5 + 1, none⟩ = some (.int .i64 0) := (unhide HZBy).cell (fill_at F (i * 5) 1 (by omega))
          have m2' : Wy.cell? ⟨gz, i * 5 + 2, none⟩ = some (.int .i64 0) := (unhide HZBy).cell (fill_at F (i * 5) 2 (by omega))
          have m3' : Wy.cell? ⟨gz, i * 5 + 3, none⟩ = some (.int .i64 0) := (unhide HZBy).cell (fill_at F (i * 5) 3 (by omega))
          have m4' : Wy.cell? ⟨gz, i * 5 + 4, none⟩ = some (.int .i64 0) := (unhide HZBy).cell (fill_at F (i * 5) 4 (by omega))
          have fz : ∀ o, Wy.frozen? ⟨gz, o, none⟩ = false := (unhide HZBy).frozen
          have J0 := hide j0
          clear hby j0 n0 n1 n2 n3 HZBx HWx
          go_wp2_with fail
          go_roundw
          case rel =>
            refine ⟨i + 1, by simp, h, ?_, ?_⟩
            · have h1 := (((((unhide HZBy).set (i * 5) zA).set (i * 5 + 1) zB).set (i * 5 + 2) zC).set (i * 5 + 3) zN).set (i * 5 + 4) zD
              have jj := unhide J0
              rw [fill_step F (i * 5) (by omega) _ (unhide HAT).1, fill_step F (i * 5 + 1) (by omega) _ (unhide HAT).2.1, fill_step F (i * 5 + 2) (by omega) _ (unhide HAT).2.2.1, fill_step F (i * 5 + 3) (by omega) _ (unhide HAT).2.2.2.1, fill_step F (i * 5 + 4) (by omega) _ (unhide HAT).2.2.2.2] at h1
              rw [show (i + 1) * 5 = i * 5 + 5 by omega]
              exact h1
            · exact (((((unhide HWy).set _ _).set _ _).set _ _).set _ _).set _ _
          case measure => simp only [intOf]; omega
        · have iz : decide ((i : Int) < (m : Int)) = false := decide_eq_false (by omega)
          obtain rfl : m = i := by omega
          have hfin : IntsAt wr gz 0 (flatZ z m) := by
            have h1 := hzb
            rw [List.take_of_length_le (by rw [unhide HFL]; omega), show F.length - m * 5 = 0 by rw [unhide HFL]; omega] at h1
            have h2 : iblk wr gz 26 F := by simpa [zeros] using h1
            rw [unhide HFE]
            exact h2.ints
          have hgzl : gz < wr.heap.size := hzb.lt
          have HMN := hide (mnP_any gz m m z wr hm1 hm400 (unhide HZK) hgzl hfin)
          have H2x : Hid (cb wr w.heap.size 26 z5) := hide ((hw.block w.heap.size (unhide H2d).lt hwz).trans (unhide H2d))
          have HBX : Hid (Below w.heap.size w wr) := hide ((unhide HBB4).trans (hw.bel (by have := (unhide HBB4).size; omega) (by omega)))
          obtain ⟨bz, hbze⟩ : ∃ bz, bst z (m - 1) = bz := ⟨_, rfl⟩
          rw [hbze] at HMN HZ3
          unfold zoV at HMN
          clear hzb hw hfin hbze
          go_wp2_with fail
          refine (unhide HMN).mono ?_
          rintro e We ⟨rfl, hbe⟩
          have H2y := hide ((unhide H2x).bel hbe)
          have HBY := hide (bc (unhide HBX) hbe)
          have o0 := (unhide H2y).cell (m := 0) rfl
          have o1 := (unhide H2y).cell (m := 1) rfl
          have o2 := (unhide H2y).cell (m := 2) rfl
          have o3 := (unhide H2y).cell (m := 3) rfl
          have o4 := (unhide H2y).cell (m := 4) rfl
          have of := (unhide H2y).frozen
          clear hbe
          go_wp2_with fail
          have V4 := hide (((((unhide H2y).set 0 (.int .i64 bz.A)).set 1 (.int .i64 bz.B)).set 2 (.int .i64 bz.C)).set 3 (.int .i64 bz.N) |>.set 4 (.int .i64 bz.D))
          have s0 := (unhide V4).cell (m := 0) rfl
          have s1 := (unhide V4).cell (m := 1) rfl
          have s2 := (unhide V4).cell (m := 2) rfl
          have s3 := (unhide V4).cell (m := 3) rfl
          have s4 := (unhide V4).cell (m := 4) rfl
          refine bodyPost_ret (v := .tuple #[.agg #[.int .i64 bz.A, .int .i64 bz.B, .int .i64 bz.C, .int .i64 bz.N, .int .i64 bz.D], .int .i64 0]) (by simp [results, Try.results7, go_sem, s0, s1, s2, s3, s4]) rfl ⟨by rw [unhide HZ3]; rfl, ?_⟩
          exact Below.setCell (Below.setCell (Below.setCell (Below.setCell (Below.setCell (unhide HBY) (Nat.le_refl _) _) (Nat.le_refl _) _) (Nat.le_refl _) _) (Nat.le_refl _) _) (Nat.le_refl _) _
  · have HZR : Hid (zoR L = ⟨0, 0, 0, 0, 0⟩) := hide (by unfold zoR; rw [if_pos h0])
    have d0 : (mcC L != 0) = true := by simpa using h0
    generalize mcC L = cc at *
    clear hI h0
    go_enter Try.func7, Try.ntmps7
    go_wp2_with fail
    generalize w.alloc (.cells #[.int .i64 0, .int .i64 0, .int .i64 0, .int .i64 0, .int .i64 0] 26) = W0 at *
    refine (unhide HMC).mono ?_
    rintro e W1 ⟨rfl, hb1⟩
    have H2y := hide ((unhide H2).bel hb1)
    have HBY := hide (bc (unhide HB0) hb1)
    have o0 := (unhide H2y).cell (m := 0) rfl
    have o1 := (unhide H2y).cell (m := 1) rfl
    have o2 := (unhide H2y).cell (m := 2) rfl
    have o3 := (unhide H2y).cell (m := 3) rfl
    have o4 := (unhide H2y).cell (m := 4) rfl
    have of := (unhide H2y).frozen
    clear hb1
    go_wp2_with fail
    have V4 := hide (((((unhide H2y).set 0 (.int .i64 0)).set 1 (.int .i64 0)).set 2 (.int .i64 0)).set 3 (.int .i64 0) |>.set 4 (.int .i64 0))
    have s0 := (unhide V4).cell (m := 0) rfl
    have s1 := (unhide V4).cell (m := 1) rfl
    have s2 := (unhide V4).cell (m := 2) rfl
    have s3 := (unhide V4).cell (m := 3) rfl
    have s4 := (unhide V4).cell (m := 4) rfl
    refine bodyPost_ret (v := .tuple #[.agg #[.int .i64 0, .int .i64 0, .int .i64 0, .int .i64 0, .int .i64 0], .int .i64 cc]) (by simp [results, Try.results7, go_sem, s0, s1, s2, s3, s4]) rfl ⟨by rw [unhide HZR]; rfl, ?_⟩
    exact Below.setCell (Below.setCell (Below.setCell (Below.setCell (Below.setCell (unhide HBY) (Nat.le_refl _) _) (Nat.le_refl _) _) (Nat.le_refl _) _) (Nat.le_refl _) _) (Nat.le_refl _) _
end Go.Proofs.Ytdcecfgmfmpeeaa
