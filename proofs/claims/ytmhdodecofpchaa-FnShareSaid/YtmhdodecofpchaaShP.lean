/-
  The program's shares.
-/
import Derived.Test.YtmhdodecofpchaaShMath
import Derived.Test.YtmhdodecofpchaaOfEach
import Derived.BigRegion
namespace Go.Proofs.Ytmhdodecofpchaa
open Go.ChangeShapes Go.WideShapes Go.ChangeAt Go.RowKit Go.Shelf
set_option linter.unusedVariables false
set_option linter.unusedSimpArgs false

theorem enters58 : ∀ args w, (callFunc 58 args).run Try.prog w = .ok (.enter 58 args) w := enters_of Try.func58 (by kernel_rfl) rfl
/-- the comparison of ranks, whatever the world, as long as the remainders lie there -/
theorem cmp_ranks (D R7 Q m : Nat) (R : List Int) (hR : R.length = m) (h1 : R7 ≠ D) (h2 : Q ≠ D) :
    Cmp (.pointer (some ⟨R7, 0, none⟩)) D (cmR (remOf R)) (fun x => 0 ≤ x ∧ x < (m : Int)) (fun W => W.cell? ⟨R7, 0, none⟩ = some (.slice (some ⟨Q, 0, none⟩) m m) ∧ iblk W Q 3 R) := by
  refine ⟨enters58, ?_, ?_⟩
  · rintro W W' ⟨ha, hb⟩ hw
    exact ⟨cell_but hw h1 ha, hb.but hw h2⟩
  · rintro W x y ⟨ha, hb⟩ hx hy
    obtain ⟨i, rfl⟩ := Int.eq_ofNat_of_zero_le hx.1
    obtain ⟨j, rfl⟩ := Int.eq_ofNat_of_zero_le hy.1
    have := rank_any R7 Q m i j (gt R i) (gt R j) W (by omega) (by omega) ha (hb.cell (gtk_some (by omega))) (hb.cell (gtk_some (by omega)))
    exact this

theorem iblk.dr {w : World} {g t : Nat} {L : List Int} (h : iblk w g t L) : iblk w.drew g t L := h
theorem cell_setb {w : World} {b g o j : Nat} {v x : Value} (h : w.cell? ⟨b, j, none⟩ = some x) (hg : b ≠ g) : (w.setCell ⟨g, o, none⟩ v).cell? ⟨b, j, none⟩ = some x := (World.cell?_of_block (w := w) (a := ⟨b, j, none⟩) (Below.heap_setCell _ _ _ _ hg)).trans h
theorem cell_dr {w : World} {b j : Nat} {x : Value} (h : w.cell? ⟨b, j, none⟩ = some x) : w.drew.cell? ⟨b, j, none⟩ = some x := h
theorem iblk.setb {w : World} {g g' t o : Nat} {L : List Int} {v : Value} (h : iblk w g t L) (hg : g ≠ g') : iblk (w.setCell ⟨g', o, none⟩ v) g t L := (Below.heap_setCell _ _ _ _ hg).trans h
set_option maxHeartbeats 4000000 in
set_option maxRecDepth 100000 in
theorem shP_any (u : Option Addr) (p po m cu : Nat) (T : Int) (ws : List Int) (w : World) (hl : ws.length = m) (hm : m ≤ 80) (hw : ∀ x ∈ ws, 0 ≤ x ∧ x ≤ 100000) (hT : 0 ≤ T ∧ T ≤ 100000) (hs : 0 < sumL ws) (hu : u = some ⟨p, po, none⟩ ∧ p < w.heap.size ∧ IntsAt w p po ws) :
    Calls Try.prog 35 #[.int .i64 T, .slice u m cu] w fun e w' => (∃ g M, e = .returned (.slice (some ⟨g, 0, none⟩) m m) ∧ w.heap.size ≤ g ∧ Ranked (rs T (sumL ws) ws) M ∧ iblk w' g 3 (shr T ws M)) ∧ Below w.heap.size w w' := by
  obtain ⟨rfl, hp, hI⟩ := hu
  have hsum : ∀ i, i ≤ m → 0 ≤ sumL (ws.take i) ∧ sumL (ws.take i) ≤ 8000000 := by
    intro i hi
    refine ⟨sumL_ge (fun x hx => (hw x (List.mem_of_mem_take hx)).1), ?_⟩
    have := sumL_le (L := ws.take i) (b := 100000) (fun x hx => (hw x (List.mem_of_mem_take hx)).2)
    rw [List.length_take] at this
    omega
  have HS1 := hide (fun (W : World) (hW : IntsAt W p po ws) => sum_any (some ⟨p, po, none⟩) p po m cu ws W hl (by omega) (fun i hi => by have := hsum i hi; omega) (fun _ => ⟨rfl, hW⟩))
  have hWb := hsum m (Nat.le_refl _)
  rw [List.take_of_length_le (by omega)] at hWb
  have HQ : Hid (∀ i x, ws[i]? = some x → 0 ≤ T * x ∧ T * x ≤ 10000000000 ∧ 0 ≤ T * x / sumL ws ∧ T * x / sumL ws ≤ 10000000000) := hide (fun i x hx => q_bound hT (hw x (List.mem_of_getElem? hx)) hs)
  have HLB := hide (left_bound (T := T) hs)
  have hqsum : ∀ i, i ≤ m → 0 ≤ sumL ((qs T (sumL ws) ws).take i) ∧ sumL ((qs T (sumL ws) ws).take i) ≤ 800000000000 := by
    intro i hi
    have hq : ∀ x ∈ (qs T (sumL ws) ws).take i, 0 ≤ x ∧ x ≤ 10000000000 := by
      intro x hx
      obtain ⟨y, hy, rfl⟩ := List.mem_map.1 (List.mem_of_mem_take hx)
      have := q_bound hT (hw y hy) hs
      exact this.2.2
    refine ⟨sumL_ge (fun x hx => (hq x hx).1), ?_⟩
    have := sumL_le (L := (qs T (sumL ws) ws).take i) (b := 10000000000) (fun x hx => (hq x hx).2)
    rw [List.length_take] at this
    omega
  have HQG : Hid (∀ i, i < m → 0 ≤ gt (qs T (sumL ws) ws) i ∧ gt (qs T (sumL ws) ws) i ≤ 10000000000) := hide (by
    intro i hi
    obtain ⟨y, hy⟩ : ∃ y, ws[i]? = some y := ⟨_, List.getElem?_eq_getElem (by omega)⟩
    have h1 := gtk_some (a := qs T (sumL ws) ws) (i := i) (by rw [qs_len]; omega)
    rw [qs_at hy] at h1
    rw [← Option.some.inj h1]
    exact (q_bound hT (hw y (List.mem_of_getElem? hy)) hs).2.2)
  have hmk := fun W => make_ints (P := Try.prog) 32 3 1 8 m Try.underlying32 (.int .i64 0) (by rfl) (by omega) int_info (by omega) (by omega) W
  rw [Nat.mul_one] at hmk
  have HL := hide hl
  have HI := hide hI
  have HW0 := hide hw
  have HQS := hide hqsum
  have HQL : Hid ((qs T (sumL ws) ws).length = m) := hide (by rw [qs_len]; exact hl)
  have HRL : Hid ((rs T (sumL ws) ws).length = m) := hide (by rw [rs_len]; exact hl)
  have m0 : (0 : Int) ≤ (m : Int) := Int.natCast_nonneg _
  have hm' : (m : Int) ≤ 80 := by omega
  obtain ⟨hT0, hT1⟩ := hT
  have HSH : Hid (∀ M, shr T ws M = (M.take (T - sumL (qs T (sumL ws) ws)).toNat).foldl inc (qs T (sumL ws) ws)) := hide fun M => rfl
  have HQA : Hid (∀ i x, ws[i]? = some x → (qs T (sumL ws) ws)[i]? = some (T * x / sumL ws) ∧ (rs T (sumL ws) ws)[i]? = some (T * x % sumL ws)) := hide fun i x hx => ⟨qs_at hx, rs_at hx⟩
  generalize hZ : zeros m = Z at hmk
  have HZ := hide hZ
  clear hl hI hw hqsum hsum hZ
  generalize qs T (sumL ws) ws = QS at *
  generalize rs T (sumL ws) ws = RS at *
  generalize sumL ws = SW at *
  obtain ⟨hW1, hW2⟩ := hWb
  go_enter Try.func35, Try.ntmps35
  go_wp2_with fail
  refine (unhide HS1 _ (unhide HI)).mono ?_
  rintro e W1 ⟨rfl, rfl⟩
  go_wp2_with fail
  have z1 : iblk (((W1.alloc (.cells (Z.map (Value.int .i64)).toArray 3)).alloc (.cells (Z.map (Value.int .i64)).toArray 3)).alloc (.cells #[.slice (some ⟨W1.heap.size + 1, 0, none⟩) m m] 32)) W1.heap.size 3 Z := (((iblk_new W1 3 Z).bel (ba (Below.refl _ _) _)).bel (ba (Below.refl _ _) _))
  have z2 : iblk (((W1.alloc (.cells (Z.map (Value.int .i64)).toArray 3)).alloc (.cells (Z.map (Value.int .i64)).toArray 3)).alloc (.cells #[.slice (some ⟨W1.heap.size + 1, 0, none⟩) m m] 32)) (W1.heap.size + 1) 3 Z := by
    have := (iblk_new (W1.alloc (.cells (Z.map (Value.int .i64)).toArray 3)) 3 Z).bel (ba (Below.refl _ _) (.cells #[.slice (some ⟨W1.heap.size + 1, 0, none⟩) m m] 32))
    simpa using this
  have z3 : iblk ((((W1.alloc (.cells (Z.map (Value.int .i64)).toArray 3)).alloc (.cells (Z.map (Value.int .i64)).toArray 3)).alloc (.cells #[.slice (some ⟨W1.heap.size + 1, 0, none⟩) m m] 32)).alloc (.cells (Z.map (Value.int .i64)).toArray 3)) (W1.heap.size + 1 + 1 + 1) 3 Z := by
    have := iblk_new (((W1.alloc (.cells (Z.map (Value.int .i64)).toArray 3)).alloc (.cells (Z.map (Value.int .i64)).toArray 3)).alloc (.cells #[.slice (some ⟨W1.heap.size + 1, 0, none⟩) m m] 32)) 3 Z
    simpa using this
  have z4 : ((((W1.alloc (.cells (Z.map (Value.int .i64)).toArray 3)).alloc (.cells (Z.map (Value.int .i64)).toArray 3)).alloc (.cells #[.slice (some ⟨W1.heap.size + 1, 0, none⟩) m m] 32)).alloc (.cells (Z.map (Value.int .i64)).toArray 3)).cell? ⟨W1.heap.size + 1 + 1, 0, none⟩ = some (.slice (some ⟨W1.heap.size + 1, 0, none⟩) m m) := by simp [go_sem]
  have z5 : Below W1.heap.size W1 ((((W1.alloc (.cells (Z.map (Value.int .i64)).toArray 3)).alloc (.cells (Z.map (Value.int .i64)).toArray 3)).alloc (.cells #[.slice (some ⟨W1.heap.size + 1, 0, none⟩) m m] 32)).alloc (.cells (Z.map (Value.int .i64)).toArray 3)) := ba (ba (ba (ba (Below.refl _ _) _) _) _) _
  have Z1 := hide (z1.bel (ba (Below.refl _ _) (.cells (Z.map (Value.int .i64)).toArray 3)))
  have Z2 := hide (z2.bel (ba (Below.refl _ _) (.cells (Z.map (Value.int .i64)).toArray 3)))
  have Z3 := hide z3
  have Z4 := hide z4
  have Z5 := hide z5
  clear z1 z2 z3 z4 z5 hmk
  generalize (((W1.alloc (.cells (Z.map (Value.int .i64)).toArray 3)).alloc (.cells (Z.map (Value.int .i64)).toArray 3)).alloc (.cells #[.slice (some ⟨W1.heap.size + 1, 0, none⟩) m m] 32)).alloc (.cells (Z.map (Value.int .i64)).toArray 3) = WA at *
  obtain ⟨g1, hg1⟩ : ∃ g1, W1.heap.size = g1 := ⟨_, rfl⟩
  obtain ⟨g2, hg2⟩ : ∃ g2, g1 + 1 = g2 := ⟨_, rfl⟩
  obtain ⟨b7, hb7⟩ : ∃ b7, g2 + 1 = b7 := ⟨_, rfl⟩
  obtain ⟨g3, hg3⟩ : ∃ g3, b7 + 1 = g3 := ⟨_, rfl⟩
  have HG1 := hide hg1
  rw [hg1] at Z1 Z2 Z3 Z4 Z5 hp ⊢
  rw [hg2] at Z2 Z3 Z4 ⊢
  rw [hb7] at Z3 Z4 ⊢
  rw [hg3] at Z3 ⊢
  have n12 : g1 ≠ g2 := by omega
  have n17 : g1 ≠ b7 := by omega
  have n13 : g1 ≠ g3 := by omega
  have n27 : g2 ≠ b7 := by omega
  have n23 : g2 ≠ g3 := by omega
  have n73 : b7 ≠ g3 := by omega
  have n21 : g2 ≠ g1 := by omega
  have n71 : b7 ≠ g1 := by omega
  have n31 : g3 ≠ g1 := by omega
  have n72 : b7 ≠ g2 := by omega
  have n32 : g3 ≠ g2 := by omega
  have n37 : g3 ≠ b7 := by omega
  have G12 : g1 ≤ g2 := by omega
  have G13 : g1 ≤ g3 := by omega
  have p1 : p ≠ g1 := by omega
  have p2 : p ≠ g2 := by omega
  have p3 : p ≠ g3 := by omega
  have HML : Hid ((marks 0 m).length = m) := hide (marks_len 0 m)
  clear hg1 hg2 hb7 hg3
  go_loopw [26] (fun z W => ∃ i : Nat, z = .int .i64 (i : Int) ∧ i ≤ m ∧ iblk W g1 3 (QS.take i ++ zeros (QS.length - i)) ∧ iblk W g2 3 (RS.take i ++ zeros (RS.length - i)) ∧ iblk W g3 3 ((marks 0 m).take i ++ zeros ((marks 0 m).length - i)) ∧ W.cell? ⟨b7, 0, none⟩ = some (.slice (some ⟨g2, 0, none⟩) m m) ∧ Below g1 W1 W) (fun z _ => m - (intOf z).toNat)
  case atStart =>
    refine ⟨0, rfl, Nat.zero_le _, ?_, ?_, ?_, unhide Z4, unhide Z5⟩
    · rw [unhide HQL, List.take_zero, List.nil_append, Nat.sub_zero, unhide HZ]; exact unhide Z1
    · rw [unhide HRL, List.take_zero, List.nil_append, Nat.sub_zero, unhide HZ]; exact unhide Z2
    · rw [unhide HML, List.take_zero, List.nil_append, Nat.sub_zero, unhide HZ]; exact unhide Z3
  case round =>
    obtain ⟨i, rfl, hi, ha, hb, hc, hd, hw⟩ := hrel
    have HA := hide ha
    have HB := hide hb
    have HC := hide hc
    have HD := hide hd
    have HW := hide hw
    clear Z1 Z2 Z3 Z4 Z5
    by_cases h : i < m
    · have i1 : decide ((i : Int) < (m : Int)) = true := decide_eq_true (by omega)
      have i0 : (0 : Int) ≤ (i : Int) := Int.natCast_nonneg _
      have i2 : (i : Int) < (m : Int) := by omega
      obtain ⟨x, hx⟩ := get_some (unhide HL) h
      obtain ⟨hqx, hrx⟩ := unhide HQA i x hx
      obtain ⟨t0, t1, t2, t3⟩ := unhide HQ i x hx
      have cx : wr.cell? ⟨p, po + i, none⟩ = some (.int .i64 x) := by
        have := (unhide HI).below (unhide HW) (by have := unhide HG1; omega)
        exact this i x hx
      have q0 : i + 0 < QS.length := by rw [unhide HQL]; omega
      have r0 : i + 0 < RS.length := by rw [unhide HRL]; omega
      have k0 : i + 0 < (marks 0 m).length := by rw [unhide HML]; omega
      have ca := ha.cell (fill_at QS i 0 q0)
      have cb := hb.cell (fill_at RS i 0 r0)
      have cc := hc.cell (fill_at (marks 0 m) i 0 k0)
      simp only [Nat.add_zero] at ca cb cc
      have fa : ∀ o, wr.frozen? ⟨g1, o, none⟩ = false := ha.frozen
      have fb : ∀ o, wr.frozen? ⟨g2, o, none⟩ = false := hb.frozen
      have fc : ∀ o, wr.frozen? ⟨g3, o, none⟩ = false := hc.frozen
      have HSA := hide (fill_step QS i q0 _ hqx)
      have HSB := hide (fill_step RS i r0 _ hrx)
      have HSC := hide (fill_step (marks 0 m) i k0 _ (by have := marks_at 0 m i h; rw [Int.zero_add] at this; exact this))
      have d1 : (SW == 0) = false := by rw [beq_eq_false_iff_ne]; omega
      have d2 : (T * x).tdiv SW = T * x / SW := Int.tdiv_eq_ediv_of_nonneg t0
      have d3 : (T * x).tmod SW = T * x % SW := Int.tmod_eq_emod_of_nonneg t0
      have d4 : IntKind.i64.wrap (T * x) = T * x := wrap_i (by omega) (by omega)
      have d5 : IntKind.i64.wrap (T * x / SW) = T * x / SW := wrap_i (by omega) (by omega)
      have r1 := Int.emod_nonneg (T * x) (b := SW) (by omega)
      have r2 := Int.emod_lt_of_pos (T * x) (b := SW) (by omega)
      have d6 : IntKind.i64.wrap (T * x % SW) = T * x % SW := wrap_i (by omega) (by omega)
      have d7 : SW ≠ 0 := by omega
      have e4 : wrap64 (T * x) = T * x := by unfold wrap64; omega
      have e5 : wrap64 (T * x / SW) = T * x / SW := by unfold wrap64; omega
      have e6 : wrap64 (T * x % SW) = T * x % SW := by unfold wrap64; omega
      clear hqx hrx hx ha hb hc q0 r0 k0 hw
      generalize T * x / SW = qx at *
      generalize T * x % SW = rx at *
      go_wp2_with fail
      go_region
      all_goals
        go_wp2_with fail
        go_roundw
        case rel =>
          refine ⟨i + 1, by simp, h, ?_, ?_, ?_, ?_, ?_⟩
          · rw [← unhide HSA]; repeat (first | exact unhide HA | refine iblk.set ?_ i _ | refine iblk.setb ?_ (by assumption) | refine iblk.dr ?_)
          · rw [← unhide HSB]; repeat (first | exact unhide HB | refine iblk.set ?_ i _ | refine iblk.setb ?_ (by assumption) | refine iblk.dr ?_)
          · rw [← unhide HSC]; repeat (first | exact unhide HC | refine iblk.set ?_ i _ | refine iblk.setb ?_ (by assumption) | refine iblk.dr ?_)
          · repeat (first | exact unhide HD | refine cell_setb ?_ (by assumption) | refine cell_dr ?_)
          · repeat (first | exact unhide HW | refine Below.setCell ?_ (by first | exact Nat.le_refl _ | assumption) _ | refine Below.drew ?_)
        case measure => simp only [intOf]; omega
    · have i1 : decide ((i : Int) < (m : Int)) = false := decide_eq_false (by omega)
      have en : i = m := by omega
      subst en
      have ea : QS.take i ++ zeros (QS.length - i) = QS := by rw [List.take_of_length_le (by rw [unhide HQL]; omega), unhide HQL, Nat.sub_self]; simp [zeros]
      have eb : RS.take i ++ zeros (RS.length - i) = RS := by rw [List.take_of_length_le (by rw [unhide HRL]; omega), unhide HRL, Nat.sub_self]; simp [zeros]
      have ec : (marks 0 i).take i ++ zeros ((marks 0 i).length - i) = marks 0 i := by rw [List.take_of_length_le (by rw [unhide HML]; omega), unhide HML, Nat.sub_self]; simp [zeros]
      rw [ea] at ha
      rw [eb] at hb
      rw [ec] at hc
      have HA1 := hide ha
      have HSF := hide (ssf_any g3 i (.pointer (some ⟨b7, 0, none⟩)) (remOf RS) _ _ (cmp_ranks g3 b7 g2 i RS (unhide HRL) n73 n23) (marks 0 i) wr (by omega) (unhide HML) (marks_lt i) (fun x hx => marks_mem.1 hx) ⟨hd, hb⟩ hc)
      clear ha hb hc hd hw ea eb ec HA HB HC HD
      go_wp2_with fail
      refine (unhide HSF).mono ?_
      rintro e W2 ⟨rfl, ⟨M, sm, pm, hk3⟩, hbut⟩
      have hk1 := (unhide HA1).but hbut n13
      have HK1 := hide hk1
      have HK3 := hide hk3
      have HW2 := hide ((unhide HW).trans (hbut.bel G13))
      have HRK : Hid (Ranked RS M) := hide ⟨sm, by rw [unhide HRL]; exact pm⟩
      have HML2 : Hid (M.length = i) := hide (by rw [pm.length_eq]; exact unhide HML)
      have HS2 := hide (sum_any (some ⟨g1, 0, none⟩) g1 0 i i QS W2 (unhide HQL) (by omega) (fun j hj => by have := unhide HQS j hj; omega) (fun _ => ⟨rfl, hk1.ints⟩))
      clear sm pm hk3 hbut hk1 HSF HA1 HW
      go_wp2_with fail
      refine (unhide HS2).mono ?_
      rintro e W3 ⟨rfl, rfl⟩
      obtain ⟨lb0, lb1⟩ := unhide HLB
      have hqb := unhide HQS i (Nat.le_refl _)
      rw [List.take_of_length_le (by rw [unhide HQL]; omega)] at hqb
      obtain ⟨hq0, hq1⟩ := hqb
      have HSH2 := HSH
      generalize sumL QS = sq at *
      obtain ⟨lf, hlf⟩ : ∃ lf : Nat, T - sq = (lf : Int) := ⟨(T - sq).toNat, by omega⟩
      have hlfi : lf ≤ i := by have := unhide HL; omega
      have wl : IntKind.i64.wrap (T - sq) = (lf : Int) := by rw [hlf]; exact wrap_i (by omega) (by omega)
      have l0 : (0 : Int) ≤ (lf : Int) := Int.natCast_nonneg _
      have l1 : (lf : Int) ≤ (i : Int) := by omega
      have HSH3 : Hid (∀ M, shr T ws M = (M.take lf).foldl inc QS) := hide (fun M => by have := unhide HSH2 M; rw [hlf, Int.toNat_natCast] at this; exact this)
      have HLF := hide hlf
      clear HSH HSH2
      go_wp2_with fail
      go_loopw [62] (fun z W => ∃ k : Nat, z = .int .i64 (k : Int) ∧ k ≤ lf ∧ iblk W g1 3 ((M.take k).foldl inc QS) ∧ iblk W g3 3 M ∧ Below g1 W1 W) (fun z _ => lf - (intOf z).toNat)
      case atStart => exact ⟨0, rfl, Nat.zero_le _, unhide HK1, unhide HK3, unhide HW2⟩
      case round =>
        obtain ⟨k, rfl, hk, ha, hc, hw⟩ := hrel
        have HA := hide ha
        have HC := hide hc
        have HW := hide hw
        by_cases h2 : k < lf
        · have j1 : decide ((k : Int) < (lf : Int)) = true := decide_eq_true (by omega)
          have j0 : (0 : Int) ≤ (k : Int) := Int.natCast_nonneg _
          have j2 : (k : Int) < (lf : Int) := by omega
          obtain ⟨x, hx⟩ := get_some (unhide HML2) (i := k) (by omega)
          have hxm := (unhide HRK).mem.1 (List.mem_of_getElem? hx)
          rw [unhide HRL] at hxm
          obtain ⟨xn, rfl⟩ := Int.eq_ofNat_of_zero_le hxm.1
          have hxi : xn < i := by omega
          have hlen : ((M.take k).foldl inc QS).length = i := by rw [incs_len]; exact unhide HQL
          have hbd := incs_bound (B := 10000000000) (M.take k) QS i (unhide HQL) (fun y hy => by have := (unhide HRK).mem.1 (List.mem_of_mem_take hy); rw [unhide HRL] at this; exact this) (unhide HQG) xn hxi
          rw [List.length_take] at hbd
          have cx := hc.cell hx
          have cy := ha.cell (gtk_some (a := (M.take k).foldl inc QS) (i := xn) (by omega))
          have fa : ∀ o, wr.frozen? ⟨g1, o, none⟩ = false := ha.frozen
          have HSA : Hid (((M.take k).foldl inc QS).set xn (gt ((M.take k).foldl inc QS) xn + 1) = (M.take (k + 1)).foldl inc QS) := hide (by rw [take_succ_foldl _ _ _ _ _ hx]; unfold inc; rw [Int.toNat_natCast])
          obtain ⟨y0, y1⟩ := hbd
          have x2 : (xn : Int) < (i : Int) := by omega
          have y2 : gt ((M.take k).foldl inc QS) xn ≤ 10000000080 := by omega
          generalize gt ((M.take k).foldl inc QS) xn = yv at *
          clear hx hxm hlen ha hc hw y1
          go_wp2_with fail
          go_roundw
          case rel =>
            refine ⟨k + 1, by simp, h2, ?_, ?_, ?_⟩
            · rw [← unhide HSA]; repeat (first | exact unhide HA | refine iblk.set ?_ xn _ | refine iblk.setb ?_ (by assumption) | refine iblk.dr ?_)
            · repeat (first | exact unhide HC | refine iblk.setb ?_ (by assumption) | refine iblk.dr ?_)
            · repeat (first | exact unhide HW | refine Below.setCell ?_ (by first | exact Nat.le_refl _ | assumption) _ | refine Below.drew ?_)
          case measure => simp only [intOf]; omega
        · have j1 : decide ((k : Int) < (lf : Int)) = false := decide_eq_false (by omega)
          have en : k = lf := by omega
          subst en
          clear ha hc hw
          go_wp2_with fail
          go_ret
          refine ⟨⟨g1, M, rfl, by have := unhide HG1; omega, unhide HRK, ?_⟩, by rw [unhide HG1]; exact unhide HW⟩
          rw [unhide HSH3]
          exact unhide HA
end Go.Proofs.Ytmhdodecofpchaa
