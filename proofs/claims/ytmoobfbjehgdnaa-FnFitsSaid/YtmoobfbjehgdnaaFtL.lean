/-
  FnFits: the walk.
-/
import Derived.Test.YtmoobfbjehgdnaaFtMath
import Derived.Test.YtmoobfbjehgdnaaMtO
import Derived.Test.YtmoobfbjehgdnaaMtPP
import Derived.Test.YtmoobfbjehgdnaaBkPP
namespace Go.Proofs.Ytmoobfbjehgdnaa
open Go.ChangeShapes Go.WideShapes Go.ChangeAt Go.RowKit
set_option linter.unusedVariables false
set_option linter.unusedSimpArgs false

theorem Same.dn {a w : World} (h : Same a w) (n : Nat) : Same a (w.drewN n) := ⟨h.os, h.tape, h.output, h.heap⟩
/-- two blocks of flags, and all below them as it was -/
structure Kf (W4 : World) (U1 U2 n m : Nat) (ps : List (Int × Int)) (W : World) : Prop where
  fa : bblk W U1 (fl n (ps.map Prod.fst))
  fb : bblk W U2 (fl m (ps.map Prod.snd))
  bel : Below U1 W4 W
theorem Kf.same {W4 W W' : World} {U1 U2 n m : Nat} {ps : List (Int × Int)} (h : Kf W4 U1 U2 n m ps W) (e : Same W W') : Kf W4 U1 U2 n m ps W' := ⟨vblk.same h.fa e, vblk.same h.fb e, h.bel.trans e.bel⟩
theorem Kf.low {W4 W W' : World} {U1 U2 n m : Nat} {ps : List (Int × Int)} (h : Kf W4 U1 U2 n m ps W) (hb : Below W.heap.size W W') (h12 : U1 < U2) : Kf W4 U1 U2 n m ps W' := ⟨vblk.bel h.fa hb, vblk.bel h.fb hb, h.bel.trans (hb.mono (Nat.le_of_lt (vblk.lt h.fa)))⟩
theorem fit_gap {H S : List Int} {lo hi : Int} {a b : Nat} (h : fitB H S lo hi (a : Int) (b : Int) = true) : lo ≤ gt H a - gt S b ∧ gt H a - gt S b ≤ hi := by
  have := of_decide_eq_true h
  simpa using this

set_option maxHeartbeats 8000000 in
set_option maxRecDepth 100000 in
theorem fnFits_core (a1 : Option Addr) (len1 cap1 : Nat) (w : World) (hl1 : len1 ≤ 1048576)
    (HMO : Hid (Calls Try.prog 6 #[.slice a1 len1 cap1] w fun e w' => ∃ (uh us : Option Addr) (gh gs ch cs : Nat) (H S : List Int) (lo hi : Int), e = .returned (.tuple #[.slice uh H.length ch, .slice us S.length cs, .int .i64 lo, .int .i64 hi]) ∧ mtC H S lo hi = 0 ∧ Its w' uh gh 0 H ∧ Its w' us gs 0 S ∧ Below w.heap.size w w')) :
    Calls Try.prog 3 #[.slice a1 len1 cap1] w fun e w' => e = .returned (.bool true) ∧ Below w.heap.size w w' := by
  have t1 : decide ((1048576 : Int) < (len1 : Int)) = false := decide_eq_false (by omega)
  go_enter Try.func3, Try.ntmps3
  go_wp2_with fail
  refine (unhide HMO).mono ?_
  rintro e W1 ⟨uh, us, gh, gs, ch, cs, H, S, lo, hi, rfl, hC, hih, his, hb1⟩
  have hMP := fun W (hW : Below W1.heap.size W1 W) => mtP_any uh us gh 0 H.length ch gs 0 S.length cs H S lo hi W rfl rfl (by have := (mtC_ok hC).1; omega) (by have := (mtC_ok hC).2.1; omega) (hih.bel hW) (his.bel hW)
  have hMM := fun W (hW : Below W1.heap.size W1 W) => mtM_any uh us gh 0 H.length ch gs 0 S.length cs H S lo hi W rfl rfl (by have := (mtC_ok hC).1; omega) (by have := (mtC_ok hC).2.1; omega) (hih.bel hW) (his.bel hW)
  have hBP := fun W (hW : Below W1.heap.size W1 W) => bkP_any uh us gh 0 H.length ch gs 0 S.length cs H S lo hi W rfl rfl (by have := (mtC_ok hC).1; omega) (by have := (mtC_ok hC).2.1; omega) (hih.bel hW) (his.bel hW)
  have eP : mtP H S lo hi = (fin H S lo hi).ps := by unfold mtP fin; rw [if_pos hC]
  have eH : bkH H S lo hi = those (TH H S lo hi) H.length := by unfold bkH; rw [if_pos hC]
  have eS : bkS H S lo hi = those (TS H S lo hi) S.length := by unfold bkS; rw [if_pos hC]
  rw [hC] at hMP hMM hBP
  rw [eP] at hMP hMM
  rw [eH, eS] at hBP
  obtain ⟨hn, hm, hHb, hSb, hlo, hlh, hhi⟩ := mtC_ok hC
  have HCNT := hide (told_count (H := H) (S := S) (lo := lo) (hi := hi))
  have HFN := hide (fst_nodup (H := H) (S := S) (lo := lo) (hi := hi))
  have HSN := hide (snd_nodup (H := H) (S := S) (lo := lo) (hi := hi))
  have HPF : Hid (∀ a b, (a, b) ∈ (fin H S lo hi).ps → 0 ≤ a ∧ a < (H.length : Int) ∧ 0 ≤ b ∧ b < (S.length : Int) ∧ fitB H S lo hi a b = true) := hide (fun a b h => pair_fits h)
  have HTS : Hid (∀ (a k : Nat), (a : Int) ∈ those (TH H S lo hi) H.length → k < S.length → fitB H S lo hi (a : Int) (k : Int) = true → (k : Int) ∈ those (TS H S lo hi) S.length) := hide (fun a k h1 h2 h3 => those_mem.2 ⟨by omega, by omega, ⟨by omega, by omega⟩, a, (those_mem.1 h1).2.2, h3⟩)
  have HRH := hide (those_rise (TH H S lo hi) H.length)
  have HRS := hide (those_rise (TS H S lo hi) S.length)
  have HIH : Hid (∀ x ∈ those (TH H S lo hi) H.length, 0 ≤ x ∧ x < (H.length : Int)) := hide (fun x hx => ⟨(those_mem.1 hx).1, (those_mem.1 hx).2.1⟩)
  have HIS : Hid (∀ x ∈ those (TS H S lo hi) S.length, 0 ≤ x ∧ x < (S.length : Int)) := hide (fun x hx => ⟨(those_mem.1 hx).1, (those_mem.1 hx).2.1⟩)
  generalize (fin H S lo hi).ps = ps at *
  generalize those (TH H S lo hi) H.length = TL at *
  generalize those (TS H S lo hi) S.length = SL at *
  obtain ⟨n, hnn⟩ : ∃ n, H.length = n := ⟨_, rfl⟩
  obtain ⟨m, hmm⟩ : ∃ m, S.length = m := ⟨_, rfl⟩
  rw [hnn] at hn hMP hMM hBP HCNT HPF HIH ⊢
  rw [hmm] at hm hMP hMM hBP HPF HIS HTS ⊢
  have HNN := hide hnn
  have HMM' := hide hmm
  have HHB := hide hHb
  have HSB := hide hSb
  have GIH := hide hih
  have GIS := hide his
  have KMP := hide hMP
  have KMM := hide hMM
  have KBP := hide hBP
  have HB1 := hide hb1
  have n0 : (0 : Int) ≤ (n : Int) := Int.natCast_nonneg _
  have m0 : (0 : Int) ≤ (m : Int) := Int.natCast_nonneg _
  clear hMP hMM hBP hih his hHb hSb hnn hmm hC eP eH eS hb1 HMO
  go_wp2_with fail
  refine (unhide KMP _ (Below.refl _ _)).mono ?_
  rintro e W2 ⟨⟨v2, rfl, hp2⟩, hb2⟩
  obtain ⟨up, cp, rfl, hpc⟩ := pat_cells hp2
  have HPC := hide hpc
  have Z2 := hide hb2
  clear hp2 hpc hb2
  go_wp2_with fail
  refine (unhide KMM _ (unhide Z2)).mono ?_
  rintro e W3 ⟨⟨v3, rfl, hp3⟩, hb3⟩
  obtain ⟨uw, cw, rfl, hwc⟩ := pat_cells hp3
  have HWC := hide hwc
  have Z3 := hide (bc (unhide Z2) hb3)
  have Y3 := hide hb3
  have pl0 : ((ps.length : Int) != (ps.length : Int)) = false := by simp
  have psl : ps.length ≤ 200 := by
    have h1 := (unhide HFN).length_le_of_subset (l₂ := marks 0 n) (fun x hx => by
      obtain ⟨⟨a, b⟩, h1, rfl⟩ := List.mem_map.1 hx
      have := (unhide HPF) a b h1
      exact marks_mem.2 ⟨this.1, this.2.1⟩)
    simp [marks_len] at h1
    omega
  have hmk1 := fun W => make_bools (P := Try.prog) 29 4 n Try.underlying29 bool_info (by omega) W
  have hmk2 := fun W => make_bools (P := Try.prog) 29 4 m Try.underlying29 bool_info (by omega) W
  generalize hZ1 : (List.replicate n false).map Value.bool = Z1 at hmk1
  generalize hZ2 : (List.replicate m false).map Value.bool = Zm at hmk2
  have HZ1 := hide hZ1
  have HZ2 := hide hZ2
  clear hp3 hwc hb3 hZ1 hZ2
  go_wp2_with fail
  have HK0 : Hid (Kf W3 W3.heap.size (W3.heap.size + 1) n m (ps.take 0) ((W3.alloc (.cells Z1.toArray 4)).alloc (.cells Zm.toArray 4))) := hide (by
    refine ⟨?_, ?_, ba (ba (Below.refl _ _) _) _⟩
    · show vblk _ _ 4 ((fl n []).map Value.bool)
      rw [fl_nil, unhide HZ1]
      exact vblk.bel (vblk_new W3 4 Z1) (ba (Below.refl _ _) _)
    · show vblk _ _ 4 ((fl m []).map Value.bool)
      rw [fl_nil, unhide HZ2]
      have := vblk_new (W3.alloc (.cells Z1.toArray 4)) 4 Zm
      simpa using this)
  have h12 : W3.heap.size < W3.heap.size + 1 := Nat.lt_succ_self _
  have HU1 := hide (unhide Z3).size
  generalize hU2 : W3.heap.size + 1 = U2 at *
  generalize (W3.alloc (.cells Z1.toArray 4)).alloc (.cells Zm.toArray 4) = W4 at *
  clear hmk1 hmk2
  go_loopw [13] (fun y W => ∃ i : Nat, y = .int .i64 (i : Int) ∧ i ≤ ps.length ∧ Kf W3 W3.heap.size U2 n m (ps.take i) W) (fun y _ => ps.length - (intOf y).toNat)
  case atStart => exact ⟨0, rfl, Nat.zero_le _, unhide HK0⟩
  case round =>
    obtain ⟨i, rfl, hi', hk⟩ := hrel
    have HK := hide hk
    clear hk HK0
    by_cases h : i < ps.length
    · have i1 : decide ((i : Int) < (ps.length : Int)) = true := decide_eq_true (by omega)
      have i0 : (0 : Int) ≤ (i : Int) := Int.natCast_nonneg _
      have i2 : (i : Int) < (ps.length : Int) := by omega
      obtain ⟨⟨ai, bi⟩, hp⟩ : ∃ p, ps[i]? = some p := ⟨_, List.getElem?_eq_getElem h⟩
      obtain ⟨x1, x2, x3, x4, x5⟩ := (unhide HPF) ai bi (List.mem_of_getElem? hp)
      obtain ⟨a, rfl⟩ := Int.eq_ofNat_of_zero_le x1
      obtain ⟨b, rfl⟩ := Int.eq_ofNat_of_zero_le x3
      have han : a < n := by omega
      have hbm : b < m := by omega
      obtain ⟨f1, f2⟩ := fit_gap x5
      obtain ⟨gp, rfl, hgp, p0, p1⟩ := (unhide HPC) wr (bc (unhide Y3) ((unhide HK).bel)) i _ _ hp
      obtain ⟨gw, rfl, hgw, q0, q1⟩ := (unhide HWC) wr (unhide HK).bel i _ _ hp
      have hxa : (ps.map Prod.fst)[i]? = some (a : Int) := by rw [List.getElem?_map, hp]; rfl
      have hxb : (ps.map Prod.snd)[i]? = some (b : Int) := by rw [List.getElem?_map, hp]; rfl
      have na := nodup_fresh (unhide HFN) hxa
      have nb := nodup_fresh (unhide HSN) hxb
      rw [← List.map_take] at na nb
      have c1 := (unhide HK).fa.cell (fl_at _ han)
      have c2 := (unhide HK).fb.cell (fl_at _ hbm)
      rw [decide_eq_false na] at c1
      rw [decide_eq_false nb] at c2
      have hHa : H[a]? = some (gt H a) := gtk_some (by have := unhide HNN; omega)
      have hSb' : S[b]? = some (gt S b) := gtk_some (by have := unhide HMM'; omega)
      have bw1 : Below W1.heap.size W1 wr := bc (unhide Z3) (unhide HK).bel
      obtain ⟨rfl, hgh, c3⟩ := ((unhide GIH).bel bw1).at hHa
      obtain ⟨rfl, hgs, c4⟩ := ((unhide GIS).bel bw1).at hSb'
      simp only [Nat.zero_add] at c3 c4
      have hvx := (unhide HHB) _ (List.mem_of_getElem? hHa)
      have hvy := (unhide HSB) _ (List.mem_of_getElem? hSb')
      obtain ⟨vx0, vx1⟩ := hvx
      obtain ⟨vy0, vy1⟩ := hvy
      have HSTEPA : Hid ((fl n ((ps.take i).map Prod.fst)).set a true = fl n ((ps.take (i + 1)).map Prod.fst)) := hide (by rw [fl_set]; congr 1; rw [List.take_add_one, hp]; simp)
      have HSTEPB : Hid ((fl m ((ps.take i).map Prod.snd)).set b true = fl m ((ps.take (i + 1)).map Prod.snd)) := hide (by rw [fl_set]; congr 1; rw [List.take_add_one, hp]; simp)
      have fz1 : ∀ o, wr.frozen? ⟨W3.heap.size, o, none⟩ = false := vblk.frozen (unhide HK).fa
      have fz2 : ∀ o, wr.frozen? ⟨U2, o, none⟩ = false := vblk.frozen (unhide HK).fb
      have lt1' := vblk.lt (unhide HK).fa
      have lt2' := vblk.lt (unhide HK).fb
      generalize gt H a = x at *
      generalize gt S b = y at *
      have d1 : decide ((a : Int) < 0) = false := decide_eq_false (by omega)
      have d2 : decide ((n : Int) ≤ (a : Int)) = false := decide_eq_false (by omega)
      have d3 : decide ((b : Int) < 0) = false := decide_eq_false (by omega)
      have d4 : decide ((m : Int) ≤ (b : Int)) = false := decide_eq_false (by omega)
      have a0 : (0 : Int) ≤ (a : Int) := Int.natCast_nonneg _
      have b0 : (0 : Int) ≤ (b : Int) := Int.natCast_nonneg _
      have a2 : (a : Int) < (n : Int) := by omega
      have b2 : (b : Int) < (m : Int) := by omega
      have d5 : decide (x - y < lo) = false := decide_eq_false (by omega)
      have d6 : decide (hi < x - y) = false := decide_eq_false (by omega)
      have wxy : IntKind.i64.wrap (x - y) = x - y := Go.IntWalk.i64_in _ ⟨by omega, by omega⟩
      clear hp hxa hxb na nb hHa hSb' bw1 x5
      go_wp2_with fail
      have HK5 := hide ((unhide HK).low (ba (Below.refl wr.heap.size wr) (.cells #[.int .i64 (a : Int), .int .i64 (b : Int)] 31)) h12)
      have z0 : (wr.alloc (.cells #[.int .i64 (a : Int), .int .i64 (b : Int)] 31)).cell? ⟨wr.heap.size, 0, none⟩ = some (.int .i64 (a : Int)) := by simp [go_sem]
      have z1 : (wr.alloc (.cells #[.int .i64 (a : Int), .int .i64 (b : Int)] 31)).cell? ⟨wr.heap.size, 1, none⟩ = some (.int .i64 (b : Int)) := by simp [go_sem]
      have y1 := ka (o := .cells #[.int .i64 (a : Int), .int .i64 (b : Int)] 31) c1
      have y2 := ka (o := .cells #[.int .i64 (a : Int), .int .i64 (b : Int)] 31) c2
      have y3 := ka (o := .cells #[.int .i64 (a : Int), .int .i64 (b : Int)] 31) c3
      have y4 := ka (o := .cells #[.int .i64 (a : Int), .int .i64 (b : Int)] 31) c4
      have y5 := ka (o := .cells #[.int .i64 (a : Int), .int .i64 (b : Int)] 31) q0
      have y6 := ka (o := .cells #[.int .i64 (a : Int), .int .i64 (b : Int)] 31) q1
      have fy1 : ∀ o, (wr.alloc (.cells #[.int .i64 (a : Int), .int .i64 (b : Int)] 31)).frozen? ⟨W3.heap.size, o, none⟩ = false := vblk.frozen (unhide HK5).fa
      have fy2 : ∀ o, (wr.alloc (.cells #[.int .i64 (a : Int), .int .i64 (b : Int)] 31)).frozen? ⟨U2, o, none⟩ = false := vblk.frozen (unhide HK5).fb
      have nT1 : wr.heap.size ≠ W3.heap.size := by omega
      have nT2 : wr.heap.size ≠ U2 := by omega
      have n12 : W3.heap.size ≠ U2 := by omega
      clear p0 p1 q0 q1 c1 c2 c3 c4 fz1 fz2 HK
      generalize wr.alloc (.cells #[.int .i64 (a : Int), .int .i64 (b : Int)] 31) = W5 at *
      generalize wr.heap.size = T at *
      go_quiet (fail)
      go_wp2_with fail
      go_quiet (fail)
      go_wp2_with fail
      go_roundw
      case rel =>
        first
        | (refine ⟨i + 1, by simp, h, ?_⟩)
        | ((repeat apply Exists.intro); refine ⟨?_, rfl⟩; refine ⟨i + 1, by simp, h, ?_⟩)
        refine ⟨?_, ?_, ?_⟩
        · rw [← unhide HSTEPA]
          exact bblk.off (bblk.set (unhide HK5).fa a true) n12
        · rw [← unhide HSTEPB]
          exact bblk.set (bblk.off (unhide HK5).fb (Ne.symm n12)) b true
        · exact Below.setCell (p := ⟨U2, b, none⟩) (Below.setCell (p := ⟨W3.heap.size, a, none⟩) (bel_dn' (unhide HK5).bel _) (Nat.le_refl _) _) (Nat.le_of_lt h12) _
      case measure => simp only [intOf]; omega
    · have i1 : decide ((i : Int) < (ps.length : Int)) = false := decide_eq_false (by omega)
      have Z5 : Hid (Below W1.heap.size W1 wr) := hide (bc (unhide Z3) (unhide HK).bel)
      clear HK
      go_wp2_with fail
      refine (unhide KBP _ (unhide Z5)).mono ?_
      rintro e W6 ⟨⟨va, vs, rfl, hra, hrs, _⟩, hb6⟩
      obtain ⟨ut, gt', ct, rfl, hit⟩ := hra.its
      obtain ⟨uf, gf, cf, rfl, hif⟩ := hrs.its
      have HIT := hide hit
      have HIF := hide hif
      have Z6 := hide (bc (unhide Z5) hb6)
      have hcnt := unhide HCNT
      have tn : TL.length ≤ n := nodup_le ((unhide HRH).imp (fun h => Int.ne_of_lt h)) (unhide HIH)
      have sn : SL.length ≤ m := nodup_le ((unhide HRS).imp (fun h => Int.ne_of_lt h)) (unhide HIS)
      have wt : IntKind.i64.wrap ((TL.length : Int) - (SL.length : Int)) = (TL.length : Int) - (SL.length : Int) := Go.IntWalk.i64_in _ ⟨by omega, by omega⟩
      have wp : IntKind.i64.wrap ((n : Int) - (ps.length : Int)) = (n : Int) - (ps.length : Int) := Go.IntWalk.i64_in _ ⟨by omega, by omega⟩
      have we : ((TL.length : Int) - (SL.length : Int) != (n : Int) - (ps.length : Int)) = false := by
        have : (TL.length : Int) - (SL.length : Int) = (n : Int) - (ps.length : Int) := by omega
        rw [this]; simp
      have hmk2 := fun W => make_bools (P := Try.prog) 29 4 m Try.underlying29 bool_info (by omega) W
      rw [unhide HZ2] at hmk2
      clear hra hrs hb6 hit hif hcnt KMP KMM KBP
      go_wp2_with fail
      have HF0 : Hid (bblk (W6.alloc (.cells Zm.toArray 4)) W6.heap.size (fl m (SL.take 0))) := hide (by
        show vblk _ _ 4 ((fl m []).map Value.bool)
        rw [fl_nil, unhide HZ2]
        exact vblk_new W6 4 Zm)
      have HB7 := hide (ba (Below.refl W6.heap.size W6) (.cells Zm.toArray 4))
      generalize W6.alloc (.cells Zm.toArray 4) = W7 at *
      clear hmk2 wt wp we
      go_loopw [20] (fun y W => ∃ k : Nat, y = .int .i64 (k : Int) ∧ k ≤ SL.length ∧ bblk W W6.heap.size (fl m (SL.take k)) ∧ Below W6.heap.size W6 W) (fun y _ => SL.length - (intOf y).toNat)
      case atStart => exact ⟨0, rfl, Nat.zero_le _, unhide HF0, unhide HB7⟩
      case round =>
        obtain ⟨k, rfl, hk, hf, hbw⟩ := hrel
        have HF := hide hf
        have HBW := hide hbw
        clear hf hbw HF0 HB7
        by_cases h2 : k < SL.length
        · have k1 : decide ((k : Int) < (SL.length : Int)) = true := decide_eq_true (by omega)
          have k0 : (0 : Int) ≤ (k : Int) := Int.natCast_nonneg _
          have k2 : (k : Int) < (SL.length : Int) := by omega
          obtain ⟨sx, hs⟩ : ∃ s, SL[k]? = some s := ⟨_, List.getElem?_eq_getElem h2⟩
          obtain ⟨x1, x2⟩ := (unhide HIS) sx (List.mem_of_getElem? hs)
          obtain ⟨s, rfl⟩ := Int.eq_ofNat_of_zero_le x1
          have hsm : s < m := by omega
          have bw : Its wr uf gf 0 SL := (unhide HIF).bel (unhide HBW)
          obtain ⟨rfl, hgf, c0⟩ := bw.at hs
          simp only [Nat.zero_add] at c0
          obtain ⟨bv, c5⟩ : ∃ bv : Bool, wr.cell? ⟨W6.heap.size, s, none⟩ = some (.bool bv) := ⟨_, (unhide HF).cell (fl_at _ hsm)⟩
          have fz : ∀ o, wr.frozen? ⟨W6.heap.size, o, none⟩ = false := vblk.frozen (unhide HF)
          have HSTEP : Hid ((fl m (SL.take k)).set s true = fl m (SL.take (k + 1))) := hide (by rw [fl_set]; congr 1; rw [List.take_add_one, hs]; rfl)
          have d1 : decide ((s : Int) < 0) = false := decide_eq_false (by omega)
          have d2 : decide ((m : Int) ≤ (s : Int)) = false := decide_eq_false (by omega)
          have s0 : (0 : Int) ≤ (s : Int) := Int.natCast_nonneg _
          have s2 : (s : Int) < (m : Int) := by omega
          by_cases hk0 : k = 0
          · have d3 : decide ((0 : Int) < (k : Int)) = false := decide_eq_false (by omega)
            have e1 : ¬ (s : Int) < 0 := by omega
            have e2 : ¬ (m : Int) ≤ (s : Int) := by omega
            have e3 : ¬ (0 : Int) < (k : Int) := by omega
            have e4 : ¬ 0 < k := by omega
            have e5 : ¬ m ≤ s := by omega
            clear bw hs hk0 x1 x2 hsm hgf
            go_wp2_with fail
            go_quiet (fail)
            go_wp2_with fail
            go_roundw
            case rel =>
              first
              | (refine ⟨k + 1, by simp, h2, ?_⟩)
              | ((repeat apply Exists.intro); refine ⟨?_, rfl⟩; refine ⟨k + 1, by simp, h2, ?_⟩)
              refine ⟨?_, ?_⟩
              · rw [← unhide HSTEP]
                exact bblk.set (unhide HF) s true
              · exact Below.setCell (p := ⟨W6.heap.size, s, none⟩) (bel_dn' (unhide HBW) _) (Nat.le_refl _) _
            case measure => simp only [intOf]; omega
          · obtain ⟨k', hk'⟩ : ∃ k', k = k' + 1 := ⟨k - 1, by omega⟩
            obtain ⟨s', hs'⟩ : ∃ s, SL[k']? = some s := ⟨_, List.getElem?_eq_getElem (by omega)⟩
            have c6 := (bw.at hs').2.2
            simp only [Nat.zero_add] at c6
            have hlt := rise_at (unhide HRS) (by rw [← hk']; exact hs) hs'
            have d3 : decide ((0 : Int) < (k : Int)) = true := decide_eq_true (by omega)
            have d4 : decide ((s : Int) ≤ s') = false := decide_eq_false (by omega)
            have wk : IntKind.i64.wrap ((k : Int) - 1) = (k' : Int) := by rw [Go.IntWalk.i64_in _ ⟨by omega, by omega⟩]; omega
            have kk0 : (0 : Int) ≤ (k' : Int) := Int.natCast_nonneg _
            have kk1 : (k' : Int) < (SL.length : Int) := by omega
            have HKK := hide hk'
            have e1 : ¬ (s : Int) < 0 := by omega
            have e2 : ¬ (m : Int) ≤ (s : Int) := by omega
            have e3 : (0 : Int) < (k : Int) := by omega
            have e4 : 0 < k := by omega
            have e5 : ¬ m ≤ s := by omega
            have e6 : ¬ (s : Int) ≤ s' := by omega
            clear bw hs hs' hlt hk0 hk' x1 x2 hsm hgf
            go_wp2_with fail
            go_quiet (fail)
            go_wp2_with fail
            go_roundw
            case rel =>
              first
              | (refine ⟨k + 1, by simp, h2, ?_⟩)
              | ((repeat apply Exists.intro); refine ⟨?_, rfl⟩; refine ⟨k + 1, by simp, h2, ?_⟩)
              refine ⟨?_, ?_⟩
              · rw [← unhide HSTEP]
                exact bblk.set (unhide HF) s true
              · exact Below.setCell (p := ⟨W6.heap.size, s, none⟩) (bel_dn' (unhide HBW) _) (Nat.le_refl _) _
            case measure => simp only [intOf]; omega
        · have k1 : decide ((k : Int) < (SL.length : Int)) = false := decide_eq_false (by omega)
          have hFT := unhide HF
          rw [List.take_of_length_le (by omega)] at hFT
          have HFT := hide hFT
          have HITW := hide ((unhide HIT).bel (unhide HBW))
          have bwW : Below W1.heap.size W1 wr := (unhide Z6).trans ((unhide HBW).mono (unhide Z6).size)
          have HIHW := hide ((unhide GIH).bel bwW)
          have HISW := hide ((unhide GIS).bel bwW)
          have HBF := hide (bc (unhide HB1) bwW)
          clear hFT bwW HF HBW
          go_wp2_with fail
          generalize hW8 : wr = W8 at *
          clear hW8
          go_loopw [21] (fun y W => ∃ i2 : Nat, y = .int .i64 (i2 : Int) ∧ i2 ≤ TL.length ∧ Same W8 W) (fun y _ => TL.length - (intOf y).toNat)
          case atStart => exact ⟨0, rfl, Nat.zero_le _, Same.refl _⟩
          case round =>
            obtain ⟨i2, rfl, hi2, hsm⟩ := hrel
            have HSM := hide hsm
            clear hsm
            by_cases h4 : i2 < TL.length
            · have j1 : decide ((i2 : Int) < (TL.length : Int)) = true := decide_eq_true (by omega)
              have j0 : (0 : Int) ≤ (i2 : Int) := Int.natCast_nonneg _
              have j2 : (i2 : Int) < (TL.length : Int) := by omega
              obtain ⟨ax, hs⟩ : ∃ s, TL[i2]? = some s := ⟨_, List.getElem?_eq_getElem h4⟩
              obtain ⟨x1, x2⟩ := (unhide HIH) ax (List.mem_of_getElem? hs)
              obtain ⟨a, rfl⟩ := Int.eq_ofNat_of_zero_le x1
              have han : a < n := by omega
              obtain ⟨rfl, hgt, c0⟩ := (unhide HITW).at hs
              simp only [Nat.zero_add] at c0
              rw [← (unhide HSM).cell] at c0
              have hHa : H[a]? = some (gt H a) := gtk_some (by have := unhide HNN; omega)
              obtain ⟨rfl, hgh, _⟩ := (unhide HIHW).at hHa
              have hvx := (unhide HHB) _ (List.mem_of_getElem? hHa)
              obtain ⟨vx0, vx1⟩ := hvx
              have HHT := hide hHa
              have HTT := hide hs
              have d1 : decide ((a : Int) < 0) = false := decide_eq_false (by omega)
              have d2 : decide ((n : Int) ≤ (a : Int)) = false := decide_eq_false (by omega)
              have s0 : (0 : Int) ≤ (a : Int) := Int.natCast_nonneg _
              have s2 : (a : Int) < (n : Int) := by omega
              have e1 : ¬ (a : Int) < 0 := by omega
              have e2 : ¬ (n : Int) ≤ (a : Int) := by omega
              have e5 : ¬ n ≤ a := by omega
              clear hHa
              by_cases hk0 : i2 = 0
              · have d3 : decide ((0 : Int) < (i2 : Int)) = false := decide_eq_false (by omega)
                have e3 : ¬ (0 : Int) < (i2 : Int) := by omega
                have e4 : ¬ 0 < i2 := by omega
                clear hs hk0 x1 x2 hgt hgh
                go_wp2_with fail
                go_quiet (fail)
                go_wp2_with fail
                go_loopw [22] (fun y W => ∃ k : Nat, y = .int .i64 (k : Int) ∧ k ≤ m ∧ Same W8 W) (fun y _ => m - (intOf y).toNat)
                case atStart => exact ⟨0, rfl, Nat.zero_le _, (unhide HSM).dn _⟩
                case round =>
                  obtain ⟨k, rfl, hk, hsm2⟩ := hrel
                  have HSM2 := hide hsm2
                  clear hsm2 c0 HSM
                  by_cases h5 : k < m
                  · have k1 : decide ((k : Int) < (m : Int)) = true := decide_eq_true (by omega)
                    have k0 : (0 : Int) ≤ (k : Int) := Int.natCast_nonneg _
                    have k2 : (k : Int) < (m : Int) := by omega
                    have hcl := (unhide HSM2).cell
                    have hSk : S[k]? = some (gt S k) := gtk_some (by have := unhide HMM'; omega)
                    obtain ⟨rfl, hgs, c4⟩ := (unhide HISW).at hSk
                    have c3 := ((unhide HIHW).at (unhide HHT)).2.2
                    have c7 := ((unhide HITW).at (unhide HTT)).2.2
                    have c8 := (unhide HFT).cell (fl_at SL h5)
                    simp only [Nat.zero_add] at c3 c4 c7
                    rw [← hcl] at c3 c4 c7 c8
                    have hvy := (unhide HSB) _ (List.mem_of_getElem? hSk)
                    obtain ⟨vy0, vy1⟩ := hvy
                    have HT8 : Hid (lo ≤ gt H a - gt S k → gt H a - gt S k ≤ hi → decide ((k : Int) ∈ SL) = true) := hide (fun q1 q2 => decide_eq_true ((unhide HTS) a k (List.mem_of_getElem? (unhide HTT)) h5 (decide_eq_true (by simp; exact ⟨q1, q2⟩))))
                    generalize gt S k = y at *
                    generalize hxx : gt H a = x at *
                    generalize decide ((k : Int) ∈ SL) = bv at *
                    have wxy : IntKind.i64.wrap (x - y) = x - y := Go.IntWalk.i64_in _ ⟨by omega, by omega⟩
                    clear hSk hcl hgs
                    by_cases qa : lo ≤ x - y
                    · have da : decide (lo ≤ x - y) = true := decide_eq_true qa
                      by_cases qb : x - y ≤ hi
                      · have db : decide (x - y ≤ hi) = true := decide_eq_true qb
                        obtain rfl : bv = true := (unhide HT8) qa qb
                        go_wp2_with fail
                        go_quiet (fail)
                        go_wp2_with fail
                        go_roundw
                        case rel =>
                          first
                          | (refine ⟨k + 1, by simp, h5, ?_⟩)
                          | ((repeat apply Exists.intro); refine ⟨?_, rfl⟩; refine ⟨k + 1, by simp, h5, ?_⟩)
                          exact (unhide HSM2).dn _
                        case measure => simp only [intOf]; omega
                      · have db : decide (x - y ≤ hi) = false := decide_eq_false qb
                        go_wp2_with fail
                        go_quiet (fail)
                        go_wp2_with fail
                        go_roundw
                        case rel =>
                          first
                          | (refine ⟨k + 1, by simp, h5, ?_⟩)
                          | ((repeat apply Exists.intro); refine ⟨?_, rfl⟩; refine ⟨k + 1, by simp, h5, ?_⟩)
                          exact (unhide HSM2).dn _
                        case measure => simp only [intOf]; omega
                    · have da : decide (lo ≤ x - y) = false := decide_eq_false qa
                      go_wp2_with fail
                      go_quiet (fail)
                      go_wp2_with fail
                      go_roundw
                      case rel =>
                        first
                        | (refine ⟨k + 1, by simp, h5, ?_⟩)
                        | ((repeat apply Exists.intro); refine ⟨?_, rfl⟩; refine ⟨k + 1, by simp, h5, ?_⟩)
                        exact (unhide HSM2).dn _
                      case measure => simp only [intOf]; omega
                  · have k1 : decide ((k : Int) < (m : Int)) = false := decide_eq_false (by omega)
                    go_wp2_with fail
                    go_roundw
                    case rel =>
                      have Hx : ∃ i' : Nat, Value.int .i64 ((i2 : Int) + 1) = .int .i64 (i' : Int) ∧ i' ≤ TL.length ∧ Same W8 wr := ⟨i2 + 1, by simp, h4, unhide HSM2⟩
                      first | exact Hx | ((repeat apply Exists.intro); refine ⟨?_, rfl⟩; exact Hx)
                    case measure => simp only [intOf]; omega
              · obtain ⟨k', hk'⟩ : ∃ k', i2 = k' + 1 := ⟨i2 - 1, by omega⟩
                obtain ⟨s', hs'⟩ : ∃ s, TL[k']? = some s := ⟨_, List.getElem?_eq_getElem (by omega)⟩
                have c6 := ((unhide HITW).at hs').2.2
                simp only [Nat.zero_add] at c6
                rw [← (unhide HSM).cell] at c6
                have hlt := rise_at (unhide HRH) (by rw [← hk']; exact hs) hs'
                have d3 : decide ((0 : Int) < (i2 : Int)) = true := decide_eq_true (by omega)
                have d4 : decide ((a : Int) ≤ s') = false := decide_eq_false (by omega)
                have wk : IntKind.i64.wrap ((i2 : Int) - 1) = (k' : Int) := by rw [Go.IntWalk.i64_in _ ⟨by omega, by omega⟩]; omega
                have kk0 : (0 : Int) ≤ (k' : Int) := Int.natCast_nonneg _
                have kk1 : (k' : Int) < (TL.length : Int) := by omega
                have HKK := hide hk'
                have e3 : (0 : Int) < (i2 : Int) := by omega
                have e4 : 0 < i2 := by omega
                have e6 : ¬ (a : Int) ≤ s' := by omega
                clear hs hs' hlt hk0 hk' x1 x2 hgt hgh
                go_wp2_with fail
                go_quiet (fail)
                go_wp2_with fail
                go_loopw [22] (fun y W => ∃ k : Nat, y = .int .i64 (k : Int) ∧ k ≤ m ∧ Same W8 W) (fun y _ => m - (intOf y).toNat)
                case atStart => exact ⟨0, rfl, Nat.zero_le _, (unhide HSM).dn _⟩
                case round =>
                  obtain ⟨k, rfl, hk, hsm2⟩ := hrel
                  have HSM2 := hide hsm2
                  clear hsm2 c0 c6 HSM
                  by_cases h5 : k < m
                  · have k1 : decide ((k : Int) < (m : Int)) = true := decide_eq_true (by omega)
                    have k0 : (0 : Int) ≤ (k : Int) := Int.natCast_nonneg _
                    have k2 : (k : Int) < (m : Int) := by omega
                    have hcl := (unhide HSM2).cell
                    have hSk : S[k]? = some (gt S k) := gtk_some (by have := unhide HMM'; omega)
                    obtain ⟨rfl, hgs, c4⟩ := (unhide HISW).at hSk
                    have c3 := ((unhide HIHW).at (unhide HHT)).2.2
                    have c7 := ((unhide HITW).at (unhide HTT)).2.2
                    have c8 := (unhide HFT).cell (fl_at SL h5)
                    simp only [Nat.zero_add] at c3 c4 c7
                    rw [← hcl] at c3 c4 c7 c8
                    have hvy := (unhide HSB) _ (List.mem_of_getElem? hSk)
                    obtain ⟨vy0, vy1⟩ := hvy
                    have HT8 : Hid (lo ≤ gt H a - gt S k → gt H a - gt S k ≤ hi → decide ((k : Int) ∈ SL) = true) := hide (fun q1 q2 => decide_eq_true ((unhide HTS) a k (List.mem_of_getElem? (unhide HTT)) h5 (decide_eq_true (by simp; exact ⟨q1, q2⟩))))
                    generalize gt S k = y at *
                    generalize hxx : gt H a = x at *
                    generalize decide ((k : Int) ∈ SL) = bv at *
                    have wxy : IntKind.i64.wrap (x - y) = x - y := Go.IntWalk.i64_in _ ⟨by omega, by omega⟩
                    clear hSk hcl hgs
                    by_cases qa : lo ≤ x - y
                    · have da : decide (lo ≤ x - y) = true := decide_eq_true qa
                      by_cases qb : x - y ≤ hi
                      · have db : decide (x - y ≤ hi) = true := decide_eq_true qb
                        obtain rfl : bv = true := (unhide HT8) qa qb
                        go_wp2_with fail
                        go_quiet (fail)
                        go_wp2_with fail
                        go_roundw
                        case rel =>
                          first
                          | (refine ⟨k + 1, by simp, h5, ?_⟩)
                          | ((repeat apply Exists.intro); refine ⟨?_, rfl⟩; refine ⟨k + 1, by simp, h5, ?_⟩)
                          exact (unhide HSM2).dn _
                        case measure => simp only [intOf]; omega
                      · have db : decide (x - y ≤ hi) = false := decide_eq_false qb
                        go_wp2_with fail
                        go_quiet (fail)
                        go_wp2_with fail
                        go_roundw
                        case rel =>
                          first
                          | (refine ⟨k + 1, by simp, h5, ?_⟩)
                          | ((repeat apply Exists.intro); refine ⟨?_, rfl⟩; refine ⟨k + 1, by simp, h5, ?_⟩)
                          exact (unhide HSM2).dn _
                        case measure => simp only [intOf]; omega
                    · have da : decide (lo ≤ x - y) = false := decide_eq_false qa
                      go_wp2_with fail
                      go_quiet (fail)
                      go_wp2_with fail
                      go_roundw
                      case rel =>
                        first
                        | (refine ⟨k + 1, by simp, h5, ?_⟩)
                        | ((repeat apply Exists.intro); refine ⟨?_, rfl⟩; refine ⟨k + 1, by simp, h5, ?_⟩)
                        exact (unhide HSM2).dn _
                      case measure => simp only [intOf]; omega
                  · have k1 : decide ((k : Int) < (m : Int)) = false := decide_eq_false (by omega)
                    go_wp2_with fail
                    go_roundw
                    case rel =>
                      have Hx : ∃ i' : Nat, Value.int .i64 ((i2 : Int) + 1) = .int .i64 (i' : Int) ∧ i' ≤ TL.length ∧ Same W8 wr := ⟨i2 + 1, by simp, h4, unhide HSM2⟩
                      first | exact Hx | ((repeat apply Exists.intro); refine ⟨?_, rfl⟩; exact Hx)
                    case measure => simp only [intOf]; omega
            · have j1 : decide ((i2 : Int) < (TL.length : Int)) = false := decide_eq_false (by omega)
              go_wp2_with fail
              go_ret
              exact ⟨rfl, (unhide HBF).trans (unhide HSM).bel⟩
end Go.Proofs.Ytmoobfbjehgdnaa
