/-
  The laws' tight: of the least points it is true.
-/
import Derived.Test.YtchdmigeopmacaaTgq
import Derived.Test.YtchdmigeopmacaaPtRows
namespace Go.Proofs.Ytchdmigeopmacaa
open Go.ChangeShapes Go.WideShapes Go.ChangeAt Go.RowKit
set_option linter.unusedVariables false
set_option linter.unusedSimpArgs false

theorem lw_set {L : List Int} {a ax : Nat} (hax : ax < 2) (ha : a + 1 < L.length) : (L.set a (lwX ax (gt L a))).set (a + 1) (lwY ax (gt L (a + 1))) = L.set (a + ax) (gt L (a + ax) - 1) := by
  apply list_eq_gt
  · simp
  · intro j hj
    rw [gt_set_at (by simp; omega), gt_set_at (by omega), gt_set_at (by omega)]
    have h2 : ax = 0 ∨ ax = 1 := by omega
    unfold lwX lwY
    rcases h2 with rfl | rfl
    · by_cases h : j = a + 1
      · subst h
        simp
      · by_cases h1 : j = a
        · subst h1
          simp
        · simp [h, h1]
    · by_cases h : j = a + 1
      · subst h
        simp
      · by_cases h1 : j = a
        · subst h1
          simp
        · simp [h, h1]
theorem axis_eq {P Q : List Int} {a ax : Nat} (hax : ax < 2) (ex : gt Q (a * 2) = gt P (a * 2)) (ey : gt Q (a * 2 + 1) = gt P (a * 2 + 1)) : gt Q (a * 2 + ax) = gt P (a * 2 + ax) := by
  have h2 : ax = 0 ∨ ax = 1 := by omega
  rcases h2 with rfl | rfl
  · exact ex
  · exact ey
theorem Row.blk {w : World} {B t k g n cap : Nat} {L : List Int} (h : Row w B t k (.slice (some ⟨g, 0, none⟩) n cap) n L) : ∃ cur, w.heap[g]? = some (.cells cur t) := by
  rcases h.2 with ⟨h1, h2⟩ | ⟨g', cap', cur, hv, hB, hh, _⟩
  · cases h1
  · cases hv
    exact ⟨cur, hh⟩
theorem dnB (W : World) (q : Nat) : Below W.heap.size W (W.drewN q) := ⟨rfl, rfl, rfl, Nat.le_refl _, fun _ _ => rfl⟩
theorem mem_keep {P : List Int} {rs : List Ru} {r : Ru} {i : Nat} (h : rs.all (keepF P) = true) (hr : rs[i]? = some r) : keepF P r = true := List.all_eq_true.1 h r (List.mem_of_getElem? hr)

set_option maxHeartbeats 8000000 in
set_option maxRecDepth 100000 in
theorem tight_core (gp n cp : Nat) (P : List Int) (u : Option Addr) (p l cr : Nat) (rs : List Ru) (w : World) (hn1 : 1 ≤ n) (hn : n ≤ 24) (hl : rs.length = l) (hl2 : l ≤ 60)
    (HPL : Hid (P.length = n * 2)) (HBD : Hid (∀ j, j < n * 2 → 0 ≤ gt P j ∧ gt P j ≤ 100000)) (hgp : gp < w.heap.size) (HI : Hid (IntsAt w gp 0 P)) (HX : Hid (l ≠ 0 → u = some ⟨p, 0, none⟩ ∧ p < w.heap.size ∧ RusAt w p 0 rs)) (HR : Hid (∀ r ∈ rs, ruOk (n : Int) r = true)) (HALL : Hid (rs.all (keepF P) = true))
    (HNO : Hid (∀ Q j0, Lw P Q n j0 → (∀ j, j < n * 2 → 0 ≤ gt Q j) → rs.all (keepF Q) = false)) :
    Calls Try.prog 12 #[.slice (some ⟨gp, 0, none⟩) n cp, .slice u l cr] w fun e w' => e = .returned (.bool true) ∧ Below w.heap.size w w' := by
  obtain ⟨iP, hi1, hy0, hy1, hy2⟩ := info_parts info47
  go_enter Try.func12, Try.ntmps12
  go_wp2_with fail
  go_loopw [5] (fun s W => ∃ ax : Nat, s = .int .i64 (ax : Int) ∧ ax ≤ 2 ∧ Below w.heap.size w W) (fun s _ => 2 - (intOf s).toNat)
  case atStart => exact ⟨0, rfl, by omega, Below.refl _ _⟩
  case round =>
    obtain ⟨ax, rfl, hax2, hw⟩ := hrel
    have HW0 := hide hw
    clear hw
    by_cases hax : ax < 2
    · have az : decide ((ax : Int) < 2) = true := decide_eq_true (by omega)
      go_wp2_with fail
      go_loopw [6] (fun s W => ∃ i : Nat, s = .int .i64 (i : Int) ∧ i ≤ n ∧ Below w.heap.size w W) (fun s _ => n - (intOf s).toNat)
      case atStart => exact ⟨0, rfl, by omega, unhide HW0⟩
      case round =>
        obtain ⟨i, rfl, hi, hw⟩ := hrel
        have HW1 := hide hw
        have hsz1 := hw.size
        clear hw
        by_cases hin : i < n
        · have i1 : (i : Int) < (n : Int) := by omega
          have i0 : (0 : Int) ≤ (i : Int) := Int.natCast_nonneg _
          have iz : decide ((i : Int) < (n : Int)) = true := decide_eq_true i1
          go_wp2_with (at_builtin; refine unhide ?_)
          refine hide ?_
          refine wpList_append_own _ rfl _ _ 27 rfl w.heap.size 42 iP _ 2 16 Try.underlying27 hi1 hy0 hy1 hy2 rfl (by decide) _ 0 (([] : List Int).map (Value.int .i64)) rfl (row_made _ 42 _ 2 hsz1 _ rfl) ⟨gp, 0, none⟩ n cp (P.map (Value.int .i64)) rfl (by rw [List.length_map, unhide HPL]) (src_cells (IntsAt.alloc ((unhide HI).below (unhide HW1) hgp) (by omega) _) P 0 (fun j x h => by rw [Nat.zero_add]; exact h)) ints_one (by unfold maxLen; omega) (by omega) (by simp; omega) ?_
          intro v' wz hown' hgrow _
          have R := own_first (wr := wr) (news := P) (ba (Below.refl _ _) _ |>.mono hsz1) (by simp; omega) hsz1 hown' hgrow
          obtain ⟨gq, cq, rfl, hgq1, hgq2, hq3, _, _⟩ := R.1.full (by omega)
          have HRQ := hide R.1
          have HWz : Hid (Below w.heap.size w wz) := hide ((unhide HW1).trans R.2)
          have cx : wz.cell? ⟨gq, i * 2, none⟩ = some (.int .i64 (gt P (i * 2))) := by have := hq3 _ _ (gtk_some (show i * 2 < P.length by rw [unhide HPL]; omega)); rwa [Nat.zero_add] at this
          have cy : wz.cell? ⟨gq, i * 2 + 1, none⟩ = some (.int .i64 (gt P (i * 2 + 1))) := by have := hq3 _ _ (gtk_some (show i * 2 + 1 < P.length by rw [unhide HPL]; omega)); rwa [Nat.zero_add] at this
          have bX := unhide HBD (i * 2) (by omega)
          have bY := unhide HBD (i * 2 + 1) (by omega)
          clear hown' hgrow R hq3
          go_wp2_with fail
          refine (lower_any (gt P (i * 2)) (gt P (i * 2 + 1)) ax _ (by omega) (by omega) hax).mono ?_
          rintro e W2 ⟨rfl, hb2⟩
          have dx := keep1 hb2 cx
          have dy := keep1 hb2 cy
          have HRW2 := hide ((unhide HRQ).below hb2)
          have HB2 : Hid (Below w.heap.size w W2) := hide (bc (unhide HWz) hb2)
          obtain ⟨cur, hblk⟩ := (unhide HRW2).blk
          have cf0 : W2.frozen? ⟨gq, i * 2, none⟩ = false := by simp [World.frozen?, hblk]
          have cf1 : W2.frozen? ⟨gq, i * 2 + 1, none⟩ = false := by simp [World.frozen?, hblk]
          have clt := cell_lt dx
          have HRS : Hid (Row ((W2.setCell ⟨gq, i * 2, none⟩ (.int .i64 (lwX ax (gt P (i * 2))))).setCell ⟨gq, i * 2 + 1, none⟩ (.int .i64 (lwY ax (gt P (i * 2 + 1))))) w.heap.size 42 2 (.slice (some ⟨gq, 0, none⟩) n cq) n (P.set (i * 2 + ax) (gt P (i * 2 + ax) - 1))) := hide (by rw [← lw_set hax (by rw [unhide HPL]; omega)]; exact ((unhide HRW2).set (i * 2) (by omega) _).set (i * 2 + 1) (by omega) _)
          have HBS : Hid (Below w.heap.size w ((W2.setCell ⟨gq, i * 2, none⟩ (.int .i64 (lwX ax (gt P (i * 2))))).setCell ⟨gq, i * 2 + 1, none⟩ (.int .i64 (lwY ax (gt P (i * 2 + 1)))))) := hide (Below.setCell (Below.setCell (unhide HB2) hgq1 _) hgq1 _)
          have HLW0 := hide (Lw.first (n := n) (j0 := i * 2 + ax) (unhide HPL) (by omega))
          clear hb2 hblk cx cy
          go_wp2_with fail
          go_loopw [8] (fun s W => ∃ t : Nat, s = .int .i64 (t : Int) ∧ t ≤ n ∧ ∃ Q, Row W w.heap.size 42 2 (.slice (some ⟨gq, 0, none⟩) n cq) n Q ∧ Lw P Q n (i * 2 + ax) ∧ Below w.heap.size w W) (fun s _ => n - (intOf s).toNat)
          case atStart => exact ⟨0, rfl, by omega, _, unhide HRS, unhide HLW0, unhide HBS⟩
          case round =>
            obtain ⟨t, rfl, ht, Q0, hrow, hlw, hw⟩ := hrel
            have HRW0 := hide hrow
            have HLQ0 := hide hlw
            have HWQ0 := hide hw
            clear hrow hlw hw dx dy cf0 cf1 clt
            by_cases htn : t < n
            · have tz : decide ((t : Int) < (n : Int)) = true := decide_eq_true (by omega)
              go_wp2_with fail
              go_loopw [9] (fun s W => ∃ kr : Nat, s = .int .i64 (kr : Int) ∧ kr ≤ l ∧ ∃ Q, Row W w.heap.size 42 2 (.slice (some ⟨gq, 0, none⟩) n cq) n Q ∧ Lw P Q n (i * 2 + ax) ∧ Below w.heap.size w W) (fun s _ => l - (intOf s).toNat)
              case atStart => exact ⟨0, rfl, by omega, _, unhide HRW0, unhide HLQ0, unhide HWQ0⟩
              case round =>
                obtain ⟨kr, rfl, hkr, Q, hrow, hlw, hw⟩ := hrel
                have HRW := hide hrow
                have HLW := hide hlw
                have HW := hide hw
                clear hrow hlw hw
                by_cases h : kr < l
                · have kz : decide ((kr : Int) < (l : Int)) = true := decide_eq_true (by omega)
                  have k9 : (kr : Int) < (l : Int) := by omega
                  have k8 : (0 : Int) ≤ (kr : Int) := by omega
                  obtain ⟨rfl, pw, pa⟩ := unhide HX (by omega)
                  obtain ⟨K, A', B', M, hri⟩ : ∃ K A B M : Int, rs[kr]? = some (K, A, B, M) := ⟨_, _, _, _, List.getElem?_eq_getElem (show kr < rs.length by omega)⟩
                  obtain ⟨h1, h2, h3, h4, h5, h6⟩ := ok_ab (unhide HR _ (List.mem_of_getElem? hri)) (by omega)
                  simp only at h1 h2 h3 h4 h5 h6
                  obtain ⟨a, rfl⟩ := Int.eq_ofNat_of_zero_le h1.1
                  obtain ⟨b, rfl⟩ := Int.eq_ofNat_of_zero_le h2.1
                  obtain ⟨k0, k1, k2, k3⟩ := (pa.bel (unhide HW) pw) kr _ hri
                  simp only [Nat.zero_add] at k0 k1 k2 k3
                  obtain ⟨gq', cq', hvq, _, hgq2', hq3, _, _⟩ := (unhide HRW).full (by omega)
                  cases hvq
                  have HKQ := hide (keepsOf_any gq n cq Q (K, (a : Int), (b : Int), M) wr (unhide HLW).len (unhide HR _ (List.mem_of_getElem? hri)) hn1 (by omega) (fun j hj => by have h1 := unhide HBD j hj; have h2 := (unhide HLW).le j hj; omega) hgq2' hq3)
                  have hq3w := hq3
                  have HQC : Hid (∀ j, j < n * 2 → wr.cell? ⟨gq, j, none⟩ = some (.int .i64 (gt Q j))) := hide (fun j hj => by have := hq3w _ _ (gtk_some (show j < Q.length by rw [(unhide HLW).len]; exact hj)); rwa [Nat.zero_add] at this)
                  have HPC : Hid (∀ j, j < n * 2 → wr.cell? ⟨gp, j, none⟩ = some (.int .i64 (gt P j))) := hide (fun j hj => by have := ((unhide HI).below (unhide HW) hgp) _ _ (gtk_some (show j < P.length by rw [unhide HPL]; exact hj)); rwa [Nat.zero_add] at this)
                  have HKP := hide (fun W (hW : Below wr.heap.size wr W) => keepsOf_any gp n cp P (K, (a : Int), (b : Int), M) W (unhide HPL) (unhide HR _ (List.mem_of_getElem? hri)) hn1 (by omega) (fun j hj => by have h1 := unhide HBD j hj; omega) (by have := hW.size; have := (unhide HW).size; omega) (((unhide HI).below (unhide HW) hgp).below hW (by have := (unhide HW).size; omega)))
                  rw [mem_keep (unhide HALL) hri] at HKP
                  have ha : a < n := by omega
                  have hb : b < n := by omega
                  have a1' : (a : Int) < (n : Int) := by omega
                  have a2' : (0 : Int) ≤ (a : Int) := by omega
                  have b1' : (b : Int) < (n : Int) := by omega
                  have b2' : (0 : Int) ≤ (b : Int) := by omega
                  clear pa hri hq3 hq3w h1 h2
                  go_wp2_with fail
                  refine (unhide HKQ).mono ?_
                  rintro e V1 ⟨rfl, hb1⟩
                  have HK1 := hide hb1
                  have m0 := keep1 hb1 k0
                  have m1 := keep1 hb1 k1
                  have m2 := keep1 hb1 k2
                  have m3 := keep1 hb1 k3
                  have HWB1 : Hid (Below w.heap.size w V1) := hide (bc (unhide HW) hb1)
                  clear hb1 HKQ
                  cases hkf : keepF Q (K, (a : Int), (b : Int), M) with
                  | true =>
                    go_wp2_with fail
                    go_roundw
                    case rel => first | exact ⟨kr + 1, by simp, by omega, Q, (unhide HRW).below (unhide HK1), unhide HLW, unhide HWB1⟩ | ((repeat apply Exists.intro); refine ⟨?_, rfl⟩; exact ⟨kr + 1, by simp, by omega, Q, (unhide HRW).below (unhide HK1), unhide HLW, unhide HWB1⟩)
                    case measure => simp only [intOf]; omega
                  | false =>
                    go_wp2_with fail
                    refine (unhide HKP _ (unhide HK1)).mono ?_
                    rintro e V2 ⟨rfl, hb2⟩
                    have k0 := keep1 hb2 m0
                    have k1 := keep1 hb2 m1
                    have k2 := keep1 hb2 m2
                    have k3 := keep1 hb2 m3
                    have HKB : Hid (Below wr.heap.size wr V2) := hide (bc (unhide HK1) hb2)
                    have qax := keep1 (unhide HKB) (unhide HQC (a * 2) (by omega))
                    have qay := keep1 (unhide HKB) (unhide HQC (a * 2 + 1) (by omega))
                    have pax := keep1 (unhide HKB) (unhide HPC (a * 2) (by omega))
                    have pay := keep1 (unhide HKB) (unhide HPC (a * 2 + 1) (by omega))
                    have lax := (unhide HLW).le (a * 2) (by omega)
                    have lay := (unhide HLW).le (a * 2 + 1) (by omega)
                    have gax := unhide HBD (a * 2) (by omega)
                    have gay := unhide HBD (a * 2 + 1) (by omega)
                    have qbx := keep1 (unhide HKB) (unhide HQC (b * 2) (by omega))
                    have qby := keep1 (unhide HKB) (unhide HQC (b * 2 + 1) (by omega))
                    have pbx := keep1 (unhide HKB) (unhide HPC (b * 2) (by omega))
                    have pby := keep1 (unhide HKB) (unhide HPC (b * 2 + 1) (by omega))
                    have lbx := (unhide HLW).le (b * 2) (by omega)
                    have lby := (unhide HLW).le (b * 2 + 1) (by omega)
                    have gbx := unhide HBD (b * 2) (by omega)
                    have gby := unhide HBD (b * 2 + 1) (by omega)
                    have HRV := hide ((unhide HRW).below (unhide HKB))
                    have HWB : Hid (Below w.heap.size w V2) := hide (bc (unhide HW) (unhide HKB))
                    obtain ⟨cur, hblk⟩ := (unhide HRV).blk
                    have HBLK := hide hblk
                    have hgqV : gq < V2.heap.size := by have := (unhide HKB).size; omega
                    clear hb2 hblk m0 m1 m2 m3 HKP HK1 HQC HPC
                    by_cases eax : gt Q (a * 2) = gt P (a * 2)
                    · by_cases eay : gt Q (a * 2 + 1) = gt P (a * 2 + 1)
                      · have fax : (gt Q (a * 2) == gt P (a * 2)) = true := by simp [eax]
                        have fay : (gt Q (a * 2 + 1) == gt P (a * 2 + 1)) = true := by simp [eay]
                        go_wp2_with fail
                        go_quiet (fail)
                        go_wp2_with fail
                        refine Go.Code.wp_mono (Only.to (fun _ _ h => h)) (tg17 (pt := a) (cur := cur) (x := gt Q (a * 2)) (y := gt Q (a * 2 + 1)) h (by omega) (by omega) (by exact hgqV) (by omega) (by omega) (by exact unhide HBLK) (by first | exact k1 | exact keep1 (dnB _ _) k1 | exact keep1 (dnB _ _) (keep1 (dnB _ _) k1)) (by first | exact qax | exact keep1 (dnB _ _) qax | exact keep1 (dnB _ _) (keep1 (dnB _ _) qax)) (by first | exact qay | exact keep1 (dnB _ _) qay | exact keep1 (dnB _ _) (keep1 (dnB _ _) qay)) (fun y76 y77 y78 y79 y80 y81 y82 y83 y84 y85 y86 y87 y88 y89 y90 y91 y92 W0 W' hw0 hw' => ?_))
                        have HRN : Hid (Row W' w.heap.size 42 2 (.slice (some ⟨gq, 0, none⟩) n cq) n (Q.set (a * 2 + ax) (gt Q (a * 2 + ax) - 1))) := hide (by rw [hw', ← lw_set hax (by rw [(unhide HLW).len]; omega)]; exact ((Row.below (by first | exact unhide HRV | exact (unhide HRV).below (dnB _ _) | exact ((unhide HRV).below (dnB _ _)).below (dnB _ _)) hw0).set (a * 2) (by omega) _).set (a * 2 + 1) (by omega) _)
                        have HBN : Hid (Below w.heap.size w W') := hide (by rw [hw']; exact Below.setCell (Below.setCell (bc (by first | exact unhide HWB | exact bc (unhide HWB) (dnB _ _) | exact bc (bc (unhide HWB) (dnB _ _)) (dnB _ _)) hw0) hgq1 _) hgq1 _)
                        have HLN : Hid (Lw P (Q.set (a * 2 + ax) (gt Q (a * 2 + ax) - 1)) n (i * 2 + ax)) := hide ((unhide HLW).more (by omega) (axis_eq hax eax eay))
                        clear hw0 hw'
                        go_wp2_with fail
                        go_roundw
                        case rel => first | exact ⟨kr + 1, by simp, by omega, _, unhide HRN, unhide HLN, unhide HBN⟩ | ((repeat apply Exists.intro); refine ⟨?_, rfl⟩; exact ⟨kr + 1, by simp, by omega, _, unhide HRN, unhide HLN, unhide HBN⟩)
                        case measure => simp only [intOf]; omega
                      · have fay : (gt Q (a * 2 + 1) == gt P (a * 2 + 1)) = false := by simp [eay]
                        have fax : (gt Q (a * 2) == gt P (a * 2)) = true := by simp [eax]
                        go_wp2_with fail
                        go_quiet (fail)
                        by_cases ebx : gt Q (b * 2) = gt P (b * 2)
                        · by_cases eby : gt Q (b * 2 + 1) = gt P (b * 2 + 1)
                          · have fbx : (gt Q (b * 2) == gt P (b * 2)) = true := by simp [ebx]
                            have fby : (gt Q (b * 2 + 1) == gt P (b * 2 + 1)) = true := by simp [eby]
                            go_wp2_with fail
                            go_quiet (fail)
                            go_wp2_with fail
                            refine Go.Code.wp_mono (Only.to (fun _ _ h => h)) (tg19 (pt := b) (cur := cur) (x := gt Q (b * 2)) (y := gt Q (b * 2 + 1)) h (by omega) (by omega) (by exact hgqV) (by omega) (by omega) (by exact unhide HBLK) (by first | exact k2 | exact keep1 (dnB _ _) k2 | exact keep1 (dnB _ _) (keep1 (dnB _ _) k2)) (by first | exact qbx | exact keep1 (dnB _ _) qbx | exact keep1 (dnB _ _) (keep1 (dnB _ _) qbx)) (by first | exact qby | exact keep1 (dnB _ _) qby | exact keep1 (dnB _ _) (keep1 (dnB _ _) qby)) (fun y110 y111 y112 y113 y114 y115 y116 y117 y118 y119 y120 y121 y122 y123 y124 y125 y126 W0 W' hw0 hw' => ?_))
                            have HRN : Hid (Row W' w.heap.size 42 2 (.slice (some ⟨gq, 0, none⟩) n cq) n (Q.set (b * 2 + ax) (gt Q (b * 2 + ax) - 1))) := hide (by rw [hw', ← lw_set hax (by rw [(unhide HLW).len]; omega)]; exact ((Row.below (by first | exact unhide HRV | exact (unhide HRV).below (dnB _ _) | exact ((unhide HRV).below (dnB _ _)).below (dnB _ _)) hw0).set (b * 2) (by omega) _).set (b * 2 + 1) (by omega) _)
                            have HBN : Hid (Below w.heap.size w W') := hide (by rw [hw']; exact Below.setCell (Below.setCell (bc (by first | exact unhide HWB | exact bc (unhide HWB) (dnB _ _) | exact bc (bc (unhide HWB) (dnB _ _)) (dnB _ _)) hw0) hgq1 _) hgq1 _)
                            have HLN : Hid (Lw P (Q.set (b * 2 + ax) (gt Q (b * 2 + ax) - 1)) n (i * 2 + ax)) := hide ((unhide HLW).more (by omega) (axis_eq hax ebx eby))
                            clear hw0 hw'
                            go_wp2_with fail
                            go_roundw
                            case rel => first | exact ⟨kr + 1, by simp, by omega, _, unhide HRN, unhide HLN, unhide HBN⟩ | ((repeat apply Exists.intro); refine ⟨?_, rfl⟩; exact ⟨kr + 1, by simp, by omega, _, unhide HRN, unhide HLN, unhide HBN⟩)
                            case measure => simp only [intOf]; omega
                          · have fby : (gt Q (b * 2 + 1) == gt P (b * 2 + 1)) = false := by simp [eby]
                            have fbx : (gt Q (b * 2) == gt P (b * 2)) = true := by simp [ebx]
                            go_wp2_with fail
                            go_quiet (fail)
                            go_wp2_with fail
                            go_roundw
                            case rel => first | exact ⟨kr + 1, by simp, by omega, Q, (by first | exact unhide HRV | exact (unhide HRV).below (dnB _ _) | exact ((unhide HRV).below (dnB _ _)).below (dnB _ _)), unhide HLW, (by first | exact unhide HWB | exact bc (unhide HWB) (dnB _ _) | exact bc (bc (unhide HWB) (dnB _ _)) (dnB _ _))⟩ | ((repeat apply Exists.intro); refine ⟨?_, rfl⟩; exact ⟨kr + 1, by simp, by omega, Q, (by first | exact unhide HRV | exact (unhide HRV).below (dnB _ _) | exact ((unhide HRV).below (dnB _ _)).below (dnB _ _)), unhide HLW, (by first | exact unhide HWB | exact bc (unhide HWB) (dnB _ _) | exact bc (bc (unhide HWB) (dnB _ _)) (dnB _ _))⟩)
                            case measure => simp only [intOf]; omega
                        · have fbx : (gt Q (b * 2) == gt P (b * 2)) = false := by simp [ebx]
                          go_wp2_with fail
                          go_quiet (fail)
                          go_wp2_with fail
                          go_roundw
                          case rel => first | exact ⟨kr + 1, by simp, by omega, Q, (by first | exact unhide HRV | exact (unhide HRV).below (dnB _ _) | exact ((unhide HRV).below (dnB _ _)).below (dnB _ _)), unhide HLW, (by first | exact unhide HWB | exact bc (unhide HWB) (dnB _ _) | exact bc (bc (unhide HWB) (dnB _ _)) (dnB _ _))⟩ | ((repeat apply Exists.intro); refine ⟨?_, rfl⟩; exact ⟨kr + 1, by simp, by omega, Q, (by first | exact unhide HRV | exact (unhide HRV).below (dnB _ _) | exact ((unhide HRV).below (dnB _ _)).below (dnB _ _)), unhide HLW, (by first | exact unhide HWB | exact bc (unhide HWB) (dnB _ _) | exact bc (bc (unhide HWB) (dnB _ _)) (dnB _ _))⟩)
                          case measure => simp only [intOf]; omega
                    · have fax : (gt Q (a * 2) == gt P (a * 2)) = false := by simp [eax]
                      go_wp2_with fail
                      go_quiet (fail)
                      by_cases ebx : gt Q (b * 2) = gt P (b * 2)
                      · by_cases eby : gt Q (b * 2 + 1) = gt P (b * 2 + 1)
                        · have fbx : (gt Q (b * 2) == gt P (b * 2)) = true := by simp [ebx]
                          have fby : (gt Q (b * 2 + 1) == gt P (b * 2 + 1)) = true := by simp [eby]
                          go_wp2_with fail
                          go_quiet (fail)
                          go_wp2_with fail
                          refine Go.Code.wp_mono (Only.to (fun _ _ h => h)) (tg19 (pt := b) (cur := cur) (x := gt Q (b * 2)) (y := gt Q (b * 2 + 1)) h (by omega) (by omega) (by exact hgqV) (by omega) (by omega) (by exact unhide HBLK) (by first | exact k2 | exact keep1 (dnB _ _) k2 | exact keep1 (dnB _ _) (keep1 (dnB _ _) k2)) (by first | exact qbx | exact keep1 (dnB _ _) qbx | exact keep1 (dnB _ _) (keep1 (dnB _ _) qbx)) (by first | exact qby | exact keep1 (dnB _ _) qby | exact keep1 (dnB _ _) (keep1 (dnB _ _) qby)) (fun y110 y111 y112 y113 y114 y115 y116 y117 y118 y119 y120 y121 y122 y123 y124 y125 y126 W0 W' hw0 hw' => ?_))
                          have HRN : Hid (Row W' w.heap.size 42 2 (.slice (some ⟨gq, 0, none⟩) n cq) n (Q.set (b * 2 + ax) (gt Q (b * 2 + ax) - 1))) := hide (by rw [hw', ← lw_set hax (by rw [(unhide HLW).len]; omega)]; exact ((Row.below (by first | exact unhide HRV | exact (unhide HRV).below (dnB _ _) | exact ((unhide HRV).below (dnB _ _)).below (dnB _ _)) hw0).set (b * 2) (by omega) _).set (b * 2 + 1) (by omega) _)
                          have HBN : Hid (Below w.heap.size w W') := hide (by rw [hw']; exact Below.setCell (Below.setCell (bc (by first | exact unhide HWB | exact bc (unhide HWB) (dnB _ _) | exact bc (bc (unhide HWB) (dnB _ _)) (dnB _ _)) hw0) hgq1 _) hgq1 _)
                          have HLN : Hid (Lw P (Q.set (b * 2 + ax) (gt Q (b * 2 + ax) - 1)) n (i * 2 + ax)) := hide ((unhide HLW).more (by omega) (axis_eq hax ebx eby))
                          clear hw0 hw'
                          go_wp2_with fail
                          go_roundw
                          case rel => first | exact ⟨kr + 1, by simp, by omega, _, unhide HRN, unhide HLN, unhide HBN⟩ | ((repeat apply Exists.intro); refine ⟨?_, rfl⟩; exact ⟨kr + 1, by simp, by omega, _, unhide HRN, unhide HLN, unhide HBN⟩)
                          case measure => simp only [intOf]; omega
                        · have fby : (gt Q (b * 2 + 1) == gt P (b * 2 + 1)) = false := by simp [eby]
                          have fbx : (gt Q (b * 2) == gt P (b * 2)) = true := by simp [ebx]
                          go_wp2_with fail
                          go_quiet (fail)
                          go_wp2_with fail
                          go_roundw
                          case rel => first | exact ⟨kr + 1, by simp, by omega, Q, (by first | exact unhide HRV | exact (unhide HRV).below (dnB _ _) | exact ((unhide HRV).below (dnB _ _)).below (dnB _ _)), unhide HLW, (by first | exact unhide HWB | exact bc (unhide HWB) (dnB _ _) | exact bc (bc (unhide HWB) (dnB _ _)) (dnB _ _))⟩ | ((repeat apply Exists.intro); refine ⟨?_, rfl⟩; exact ⟨kr + 1, by simp, by omega, Q, (by first | exact unhide HRV | exact (unhide HRV).below (dnB _ _) | exact ((unhide HRV).below (dnB _ _)).below (dnB _ _)), unhide HLW, (by first | exact unhide HWB | exact bc (unhide HWB) (dnB _ _) | exact bc (bc (unhide HWB) (dnB _ _)) (dnB _ _))⟩)
                          case measure => simp only [intOf]; omega
                      · have fbx : (gt Q (b * 2) == gt P (b * 2)) = false := by simp [ebx]
                        go_wp2_with fail
                        go_quiet (fail)
                        go_wp2_with fail
                        go_roundw
                        case rel => first | exact ⟨kr + 1, by simp, by omega, Q, (by first | exact unhide HRV | exact (unhide HRV).below (dnB _ _) | exact ((unhide HRV).below (dnB _ _)).below (dnB _ _)), unhide HLW, (by first | exact unhide HWB | exact bc (unhide HWB) (dnB _ _) | exact bc (bc (unhide HWB) (dnB _ _)) (dnB _ _))⟩ | ((repeat apply Exists.intro); refine ⟨?_, rfl⟩; exact ⟨kr + 1, by simp, by omega, Q, (by first | exact unhide HRV | exact (unhide HRV).below (dnB _ _) | exact ((unhide HRV).below (dnB _ _)).below (dnB _ _)), unhide HLW, (by first | exact unhide HWB | exact bc (unhide HWB) (dnB _ _) | exact bc (bc (unhide HWB) (dnB _ _)) (dnB _ _))⟩)
                        case measure => simp only [intOf]; omega
                · have kz : decide ((kr : Int) < (l : Int)) = false := decide_eq_false (by omega)
                  go_wp2_with fail
                  go_roundw
                  case rel => first | exact ⟨t + 1, by simp, by omega, Q, unhide HRW, unhide HLW, unhide HW⟩ | ((repeat apply Exists.intro); refine ⟨?_, rfl⟩; exact ⟨t + 1, by simp, by omega, Q, unhide HRW, unhide HLW, unhide HW⟩)
                  case measure => simp only [intOf]; omega
            · have tz : decide ((t : Int) < (n : Int)) = false := decide_eq_false (by omega)
              obtain ⟨gq', cq', hvq, _, hgq2', hq3, _, _⟩ := (unhide HRW0).full (by omega)
              cases hvq
              have HBA := hide (below_any gq n cq Q0 wr (unhide HLQ0).len (by omega) hgq2' hq3)
              have HKA := hide (fun W (hW : Below wr.heap.size wr W) => keepsAll_any gq n cq Q0 u p l cr rs W (unhide HLQ0).len (unhide HR) hn1 (by omega) hl (by omega) (fun j hj => by have h1 := unhide HBD j hj; have h2 := (unhide HLQ0).le j hj; omega) (Nat.lt_of_lt_of_le hgq2' hW.size) (hq3.below hW hgq2') (fun h0 => ⟨(unhide HX h0).1, by have := (unhide HX h0).2.1; have := hW.size; have := (unhide HWQ0).size; omega, (unhide HX h0).2.2.bel (bc (unhide HWQ0) hW) (unhide HX h0).2.1⟩))
              clear hq3
              go_wp2_with fail
              refine (unhide HBA).mono ?_
              rintro e V1 ⟨⟨bb, rfl, hbb⟩, hb1⟩
              have HB1 := hide hb1
              clear hb1
              cases bb with
              | true =>
                clear hbb
                go_wp2_with fail
                go_roundw
                case rel => first | exact ⟨i + 1, by simp, by omega, bc (unhide HWQ0) (unhide HB1)⟩ | ((repeat apply Exists.intro); refine ⟨?_, rfl⟩; exact ⟨i + 1, by simp, by omega, bc (unhide HWQ0) (unhide HB1)⟩)
                case measure => simp only [intOf]; omega
              | false =>
                have hno := unhide HNO Q0 _ (unhide HLQ0) (hbb rfl)
                rw [hno] at HKA
                clear hbb hno
                go_wp2_with fail
                refine (unhide HKA _ (unhide HB1)).mono ?_
                rintro e V2 ⟨rfl, hb2⟩
                have HB2' := hide (bc (unhide HB1) hb2)
                clear hb2
                go_wp2_with fail
                go_roundw
                case rel => first | exact ⟨i + 1, by simp, by omega, bc (unhide HWQ0) (unhide HB2')⟩ | ((repeat apply Exists.intro); refine ⟨?_, rfl⟩; exact ⟨i + 1, by simp, by omega, bc (unhide HWQ0) (unhide HB2')⟩)
                case measure => simp only [intOf]; omega
        · have iz : decide ((i : Int) < (n : Int)) = false := decide_eq_false (by omega)
          go_wp2_with fail
          go_roundw
          case rel => first | exact ⟨ax + 1, by simp, by omega, unhide HW1⟩ | ((repeat apply Exists.intro); refine ⟨?_, rfl⟩; exact ⟨ax + 1, by simp, by omega, unhide HW1⟩)
          case measure => simp only [intOf]; omega
    · have az : decide ((ax : Int) < 2) = false := decide_eq_false (by omega)
      go_wp2_with fail
      go_ret
      exact ⟨rfl, unhide HW0⟩
end Go.Proofs.Ytchdmigeopmacaa
