/-
  The model's Blocked.
-/
import Derived.Test.YtmoobfbjehgdnaaBkFix
namespace Go.Proofs.Ytmoobfbjehgdnaa
open Go.ChangeShapes Go.WideShapes Go.ChangeAt Go.RowKit
set_option linter.unusedVariables false
set_option linter.unusedSimpArgs false

def boolOf : Value → Nat
  | .bool true => 1
  | _ => 0
theorem below_set {B : Nat} {a w : World} (h : Below B a w) {g : Nat} (hg : B ≤ g) (o : Nat) (v : Value) : Below B a (w.setCell ⟨g, o, none⟩ v) :=
  ⟨h.os, h.tape, h.output, by simpa [World.setCell] using h.size, fun k hk => (Below.heap_setCell _ _ _ _ (show k ≠ g by omega)).trans (h.block k hk)⟩
theorem bblk.off {w : World} {g a o : Nat} {u : List Bool} {x : Value} (h : bblk w g u) (hg : g ≠ a) : bblk (w.setCell ⟨a, o, none⟩ x) g u := (Below.heap_setCell _ _ _ _ hg).trans h
theorem pat_cells {W1 : World} {B : Nat} {val : Value} {ps : List (Int × Int)} (h : PAt W1 B val ps) : ∃ (u : Option Addr) (cap : Nat), val = .slice u ps.length cap ∧ ∀ W, Below W1.heap.size W1 W → ∀ i a b, ps[i]? = some (a, b) → ∃ g, u = some ⟨g, 0, none⟩ ∧ g < W1.heap.size ∧ W.cell? ⟨g, i * 2, none⟩ = some (.int .i64 a) ∧ W.cell? ⟨g, i * 2 + 1, none⟩ = some (.int .i64 b) := by
  obtain ⟨u, cap, rfl, hr⟩ := h
  refine ⟨u, cap, rfl, fun W hW i a b hi => ?_⟩
  obtain ⟨g, rfl, hrow⟩ := hr (by rintro rfl; cases hi)
  obtain ⟨_, _, hv, h1, h2, _, _⟩ := hrow.sm (by simp)
  cases hv
  obtain ⟨f1, f2⟩ := flat2_at hi
  exact ⟨g, rfl, h2, (hrow.below hW).cellAt f1, (hrow.below hW).cellAt f2⟩

set_option maxHeartbeats 8000000 in
set_option maxRecDepth 100000 in
theorem bkM_right (u v : Option Addr) (p po n cu q qo m cv : Nat) (H S : List Int) (lo hi : Int) (w : World) (hl : H.length = n) (hm : S.length = m) (hu : Its w u p po H) (hv : Its w v q qo S) (hC : mtC H S lo hi = 0) :
    Calls Try.prog 16 #[.slice u n cu, .slice v m cv, .int .i64 lo, .int .i64 hi] w fun e w' => (∃ g1 c1 g2 c2, e = .returned (.tuple #[.slice (some ⟨g1, 0, none⟩) (those (TH H S lo hi) n).length c1, .slice (some ⟨g2, 0, none⟩) (those (TS H S lo hi) m).length c2, .int .i64 0]) ∧ Row w' w.heap.size 3 1 (.slice (some ⟨g1, 0, none⟩) (those (TH H S lo hi) n).length c1) (those (TH H S lo hi) n).length (those (TH H S lo hi) n) ∧ Row w' w.heap.size 3 1 (.slice (some ⟨g2, 0, none⟩) (those (TS H S lo hi) m).length c2) (those (TS H S lo hi) m).length (those (TS H S lo hi) m)) ∧ Below w.heap.size w w' := by
  obtain ⟨iP, hi1, hy0, hy1, hy2⟩ := info_parts int_info3
  obtain ⟨hn, hm2, hH, hS, hlo, hlh, hhi⟩ := mtC_ok hC
  rw [hl] at hn
  rw [hm] at hm2
  have HM := hide (mtM_right u v p po n cu q qo m cv H S lo hi w hl hm hu hv hC)
  rw [show pgo H S lo hi (ordL H n) (ordL S m) = fin H S lo hi by unfold fin; rw [hl, hm]] at HM
  have hmk := fun W => make_bools (P := Try.prog) 29 4 n Try.underlying29 bool_info (by omega) W
  have hmk2 := fun W => make_bools (P := Try.prog) 29 4 m Try.underlying29 bool_info (by omega) W
  have HHC : Hid (∀ W, Below w.heap.size w W → ∀ j, j < n → ∃ b o, u = some ⟨b, o, none⟩ ∧ b < w.heap.size ∧ W.cell? ⟨b, o + j, none⟩ = some (.int .i64 (gt H j)) ∧ 0 ≤ gt H j ∧ gt H j ≤ 100000) := hide (fun W hW j hj => by
    have hx := gtk_some (a := H) (i := j) (by omega)
    obtain ⟨h1, h2, h3⟩ := hu.at hx
    exact ⟨p, po, h1, h2, (hW.cell (p := ⟨p, po + j, none⟩) h2).trans h3, hH _ (List.mem_of_getElem? hx)⟩)
  have HSC : Hid (∀ W, Below w.heap.size w W → ∀ j, j < m → ∃ b o, v = some ⟨b, o, none⟩ ∧ b < w.heap.size ∧ W.cell? ⟨b, o + j, none⟩ = some (.int .i64 (gt S j)) ∧ 0 ≤ gt S j ∧ gt S j ≤ 100000) := hide (fun W hW j hj => by
    have hx := gtk_some (a := S) (i := j) (by omega)
    obtain ⟨h1, h2, h3⟩ := hv.at hx
    exact ⟨q, qo, h1, h2, (hW.cell (p := ⟨q, qo + j, none⟩) h2).trans h3, hS _ (List.mem_of_getElem? hx)⟩)
  have HPB : Hid (∀ i a b, (fin H S lo hi).ps[i]? = some (a, b) → ∃ an bn : Nat, a = (an : Int) ∧ b = (bn : Int) ∧ an < n ∧ bn < m) := hide (fun i a b h => by
    have := pair_fits (List.mem_of_getElem? h)
    exact ⟨a.toNat, b.toNat, by omega, by omega, by omega, by omega⟩)
  have HPL : Hid ((fin H S lo hi).ps.length ≤ 200) := hide (by have := (pgo_len H S lo hi (ordL H H.length) (ordL S S.length)).2; rw [ordL_len] at this; unfold fin; omega)
  have HML : Hid (mset (fin H S lo hi).ps (List.replicate n (-1)) = mateL H S lo hi) := hide (by unfold mateL; rw [hl])
  have HMA := hide (fun (a : Nat) (h : a < n) => mateL_lt (H := H) (S := S) (lo := lo) (hi := hi) a (by omega))
  rw [hm] at HMA
  have HMN : Hid ((mateL H S lo hi).length = n) := hide (by rw [mateL_len, hl])
  have HK0 : Hid (Marks H S lo hi (List.replicate n false) (List.replicate m false)) := hide (by rw [← hl, ← hm]; exact Marks.none)
  have n0 : (0 : Int) ≤ (n : Int) := Int.natCast_nonneg _
  have m0 : (0 : Int) ≤ (m : Int) := Int.natCast_nonneg _
  have nI : (n : Int) ≤ 200 := by omega
  have mI : (m : Int) ≤ 200 := by omega
  generalize hZ : (List.replicate n false).map Value.bool = Z at hmk
  generalize hY : (List.replicate m false).map Value.bool = Y at hmk2
  have HZ := hide hZ
  have HY := hide hY
  have HL := hide hl
  have HLM := hide hm
  clear hu hv hH hS hZ hY hC hl hm
  generalize hps : (fin H S lo hi).ps = ps at *
  have HPS := hide hps
  clear hps
  go_enter Try.func16, Try.ntmps16
  go_wp2_with fail
  refine (unhide HM).mono ?_
  rintro e W1 ⟨⟨val, rfl, hpa⟩, hb1⟩
  obtain ⟨pu, pc, rfl, hpc⟩ := pat_cells hpa
  have HPC := hide hpc
  have HB1 := hide hb1
  have hs1 := hb1.size
  have hpl := unhide HPL
  clear hpa hpc hb1 HM
  go_wp2_with fail
  go_loopw [13, 37] (fun x z W => ∃ (i g c : Nat), x = .slice (some ⟨g, 0, none⟩) i c ∧ z = .int .i64 (i : Int) ∧ i ≤ n ∧ Row W W1.heap.size 3 1 (.slice (some ⟨g, 0, none⟩) i c) i (List.replicate i (-1)) ∧ Below W1.heap.size W1 W) (fun _ z _ => n - (intOf z).toNat)
  case atStart => exact ⟨0, _, _, rfl, rfl, Nat.zero_le _, row_made _ 3 _ 1 (by simp) _ (by simp), ba (Below.refl _ _) _⟩
  case round =>
    obtain ⟨i, g, c, rfl, rfl, hi', hrow, hw⟩ := hrel
    have HRW := hide hrow
    have HW := hide hw
    have hszw := hw.size
    obtain ⟨_, _, hvg, hg1, hg2, hc1, hc2⟩ := hrow.sm (by simp)
    cases hvg
    clear hrow hw
    by_cases h : i < n
    · have iz : decide ((i : Int) < (n : Int)) = true := decide_eq_true (by omega)
      have i1 : (i : Int) < (n : Int) := by omega
      have i0 : (0 : Int) ≤ (i : Int) := by omega
      go_wp2_with (at_builtin; refine unhide ?_)
      refine hide ?_
      refine wpList_append_own _ rfl _ _ 23 rfl W1.heap.size 3 iP _ 1 8 Try.underlying23 hi1 hy0 hy1 hy2 rfl (by decide) _ i ((List.replicate i (-1)).map (Value.int .i64)) rfl ((unhide HRW).alloc _) ⟨wr.heap.size, 0, none⟩ 1 1 ([(-1 : Int)].map (Value.int .i64)) rfl rfl (news_cells _ _ rfl) ints_one (by unfold maxLen; omega) (by omega) (by first | omega | (simp; omega)) ?_
      intro v1 w1 hown' hgrow hvn1
      have R1 := own_more (wr := wr) (news := [(-1 : Int)]) (by repeat (first | exact Below.refl _ _ | refine Below.alloc ?_ (by first | omega | (simp; omega)) _ | refine Below.drew ?_)) (by simp; omega) (unhide HRW) hown' hgrow
      have HR1 := hide R1
      have HN1 : Hid (v1 ≠ .slice none 0 0) := hide (fun e => by have := (hvn1.1 e).1; cases this)
      clear hown' hgrow hvn1 R1
      obtain ⟨g2, c2, rfl, hg21, hg22, hc21, hc22⟩ := (unhide HR1).1.sm (unhide HN1)
      go_wp2_with fail
      go_roundw
      case rel =>
        refine ⟨i + 1, g2, c2, rfl, by simp, h, ?_, (unhide HW).trans (unhide HR1).2⟩
        rw [List.replicate_succ']
        exact (unhide HR1).1
      case measure => simp only [intOf]; omega
    · have iz : decide ((i : Int) < (n : Int)) = false := decide_eq_false (by omega)
      have en : i = n := by omega
      subst en
      clear hi' h iz
      generalize hR0 : List.replicate i (-1 : Int) = R0 at *
      have HR0 : Hid (R0.length = i) := hide (by rw [← hR0, List.length_replicate])
      clear hR0
      go_wp2_with fail
      go_loopw [14] (fun z W => ∃ k : Nat, z = .int .i64 (k : Int) ∧ k ≤ ps.length ∧ Row W W1.heap.size 3 1 (.slice (some ⟨g, 0, none⟩) i c) i (mset (ps.take k) R0) ∧ Below W1.heap.size W1 W) (fun z _ => ps.length - (intOf z).toNat)
      case atStart => exact ⟨0, rfl, Nat.zero_le _, by rw [List.take_zero]; exact unhide HRW, unhide HW⟩
      case round =>
        obtain ⟨k, rfl, hk, hrow, hw⟩ := hrel
        have HRW2 := hide hrow
        have HW2 := hide hw
        have hszw2 := hw.size
        clear hrow hw
        by_cases h2 : k < ps.length
        · have kz : decide ((k : Int) < (ps.length : Int)) = true := decide_eq_true (by omega)
          have k1 : (k : Int) < (ps.length : Int) := by omega
          have k0 : (0 : Int) ≤ (k : Int) := by omega
          obtain ⟨⟨a, b⟩, hab⟩ : ∃ x, ps[k]? = some x := ⟨_, List.getElem?_eq_getElem h2⟩
          obtain ⟨an, bn, rfl, rfl, han, hbn⟩ := unhide HPB k a b hab
          obtain ⟨gp, rfl, hgp, ca, cb⟩ := unhide HPC _ (unhide HW2) k _ _ hab
          have HSU := hide (mset_succ hab R0)
          have anI : (an : Int) < (i : Int) := by omega
          have an0 : (0 : Int) ≤ (an : Int) := Int.natCast_nonneg _
          have fz : ∀ o, wr.frozen? ⟨g, o, none⟩ = false := (unhide HRW2).frz
          have cm : wr.cell? ⟨g, an, none⟩ = some (.int .i64 (gt (mset (ps.take k) R0) an)) := (unhide HRW2).cellAt (gtk_some (by rw [mset_len, unhide HR0]; exact han))
          have hgg : gp ≠ g := by omega
          generalize gt (mset (ps.take k) R0) an = mo at *
          clear hab
          go_wp2_with fail
          go_region_law (fail)
          all_goals
            go_wp2_with fail
            go_roundw
            case rel =>
              refine ⟨k + 1, by simp, h2, ?_, ?_⟩
              · rw [unhide HSU, Int.toNat_natCast]
                refine Row.set ?_ an (by omega) _
                first | exact unhide HRW2 | exact (unhide HRW2).below ⟨rfl, rfl, rfl, Nat.le_refl _, fun _ _ => rfl⟩
              · first | refine below_set ?_ hg1 _ _ | (refine Below.drew ?_; refine below_set ?_ hg1 _ _)
                first | exact unhide HW2 | exact (unhide HW2).trans ⟨rfl, rfl, rfl, Nat.le_refl _, fun _ _ => rfl⟩
            case measure => simp only [intOf]; omega
        · have kz : decide ((k : Int) < (ps.length : Int)) = false := decide_eq_false (by omega)
          have ek : k = ps.length := by omega
          subst ek
          clear hk h2 kz
          have HRM : Hid (Row wr W1.heap.size 3 1 (.slice (some ⟨g, 0, none⟩) i c) i (mateL H S lo hi)) := hide (by have := unhide HRW2; rw [List.take_length, unhide HML] at this; exact this)
          have HBW : Hid (Below w.heap.size w wr) := hide (bc (unhide HB1) (unhide HW2))
          have hgs : g < wr.heap.size := by obtain ⟨_, _, hvx, _, hx, _, _⟩ := (unhide HRM).sm (by simp); cases hvx; exact hx
          have hws : w.heap.size ≤ wr.heap.size := by omega
          clear HRW2 HW2 HRW HW HPC HPB HML
          go_wp2_with fail
          have HI0 : Hid (bblk ((wr.alloc (.cells Z.toArray 4)).alloc (.cells Y.toArray 4)) wr.heap.size (List.replicate i false)) := hide (vblk.bel (show bblk (wr.alloc (.cells Z.toArray 4)) wr.heap.size (List.replicate i false) by unfold bblk; rw [unhide HZ]; exact vblk_new wr 4 Z) (ba (Below.refl _ _) _))
          have HF0 : Hid (bblk ((wr.alloc (.cells Z.toArray 4)).alloc (.cells Y.toArray 4)) (wr.heap.size + 1) (List.replicate m false)) := hide (by have := vblk_new (wr.alloc (.cells Z.toArray 4)) 4 Y; rw [show (wr.alloc (.cells Z.toArray 4)).heap.size = wr.heap.size + 1 by simp] at this; unfold bblk; rw [unhide HY]; exact this)
          have HQ : Hid (Below wr.heap.size wr ((wr.alloc (.cells Z.toArray 4)).alloc (.cells Y.toArray 4))) := hide (ba (ba (Below.refl _ _) _) _)
          obtain ⟨gi, hgi⟩ : ∃ gi, wr.heap.size = gi := ⟨_, rfl⟩
          obtain ⟨gf, hgf⟩ : ∃ gf, wr.heap.size + 1 = gf := ⟨_, rfl⟩
          rw [hgi] at HI0
          rw [hgf] at HF0
          have hif : gi ≠ gf := by omega
          have hfi : gf ≠ gi := by omega
          have hgg : gi ≤ gf := by omega
          have HQ' : Hid (Below gi wr ((wr.alloc (.cells Z.toArray 4)).alloc (.cells Y.toArray 4))) := hide (by rw [← hgi]; exact unhide HQ)
          have hsq : ((wr.alloc (.cells Z.toArray 4)).alloc (.cells Y.toArray 4)).heap.size = gf + 1 := by simp; omega
          have hgf' : gi + 1 = gf := by omega
          simp only [hgi, hgf']
          generalize (wr.alloc (.cells Z.toArray 4)).alloc (.cells Y.toArray 4) = Wq at *
          have HCM : Hid (∀ W, Below gi wr W → ∀ j, j < i → W.cell? ⟨g, j, none⟩ = some (.int .i64 (gt (mateL H S lo hi) j))) := hide (fun W hW j hj => by
            rw [← hgi] at hW
            exact ((unhide HRM).below hW).cellAt (gtk_some (by rw [unhide HMN]; exact hj)))
          have HWB : Hid (∀ W, Below gi wr W → Below w.heap.size w W) := hide (fun W hW => by rw [← hgi] at hW; exact bc (unhide HBW) hW)
          have HNX : Hid (∀ {I F F' : List Bool}, Marks H S lo hi I F → ∀ {j : Nat}, j < i → ¬ waits H S lo hi I F j → F'.length = m → (∀ k, k < m → bt F' k = (bt F k || fitB H S lo hi (j : Int) (k : Int))) → Marks H S lo hi (I.set j true) F') := hide (fun h j hj hw h1 h2 => h.next (by rw [unhide HL]; exact hj) hw (by rw [unhide HLM]; exact h1) (by rw [unhide HLM]; exact h2))
          have HDN : Hid (∀ {I F : List Bool}, Marks H S lo hi I F → (∀ j, j < i → waits H S lo hi I F j) → trues I i = those (TH H S lo hi) i ∧ trues F m = those (TS H S lo hi) m) := hide (fun h hw => by
            have hd := h.done (by rw [unhide HL]; exact hw)
            rw [unhide HL, unhide HLM] at hd
            exact ⟨trues_those hd.1, trues_those hd.2⟩)
          have HIL : Hid (∀ {I F : List Bool}, Marks H S lo hi I F → I.length = i ∧ F.length = m) := hide (fun h => ⟨h.li.trans (unhide HL), h.lf.trans (unhide HLM)⟩)
          have HFB : Hid (∀ j k : Nat, fitB H S lo hi (j : Int) (k : Int) = (decide (lo ≤ gt H j - gt S k) && decide (gt H j - gt S k ≤ hi))) := hide (fun j k => by unfold fitB; rw [Int.toNat_natCast, Int.toNat_natCast, Bool.eq_iff_iff]; simp)
          clear HZ HY HRM HBW HQ hmk hmk2 HMN HPS HPL hpl HB1 hg2 hc1 hc2
          go_loopw [17] (fun a W => ∃ (b : Bool) (I F : List Bool), a = .bool b ∧ Marks H S lo hi I F ∧ bblk W gi I ∧ bblk W gf F ∧ Below gi wr W ∧ (b = false → ∀ j, j < i → waits H S lo hi I F j)) (fun a W => 2 * freesAt W gi + boolOf a)
          case atStart => exact ⟨true, _, _, rfl, unhide HK0, unhide HI0, unhide HF0, unhide HQ', by simp⟩
          case round =>
            obtain ⟨b, I, F, rfl, hk, hbi, hbf, hbw, hbb⟩ := hrel
            have HK := hide hk
            have HI := hide hbi
            have HF := hide hbf
            have HW := hide hbw
            have HBB := hide hbb
            have HFR := hide (freesAt_eq hbi)
            clear hk hbi hbf hbw hbb HK0 HI0 HF0 HQ'
            cases b
            · have HE := hide (unhide HDN (unhide HK) (unhide HBB rfl))
              have HI1 := hide (unhide HIL (unhide HK))
              have hsw := (unhide HWB _ (unhide HW)).size
              go_wp2_with fail
              refine (toldM_any gi i i I wr (unhide HI1).1 hn (vblk.lt (unhide HI)) (unhide HI)).mono ?_
              rintro e W5 ⟨⟨g1, c1, rfl, hr1⟩, hb5⟩
              have HF5 : Hid (bblk W5 gf F) := hide (vblk.bel (unhide HF) hb5)
              have HR1 := hide hr1
              have HB5 := hide hb5
              clear hr1 hb5
              go_wp2_with fail
              refine (toldM_any gf m m F W5 (unhide HI1).2 hm2 (vblk.lt (unhide HF5)) (unhide HF5)).mono ?_
              rintro e W6 ⟨⟨g2, c2, rfl, hr2⟩, hb6⟩
              have HR2 := hide hr2
              have HB6 := hide hb6
              have hs5 := (unhide HB5).size
              clear hr2 hb6
              go_wp2_with fail
              refine bodyPost_ret (v := .tuple #[.slice (some ⟨g1, 0, none⟩) (trues I i).length c1, .slice (some ⟨g2, 0, none⟩) (trues F m).length c2, .int .i64 0]) (by simp [results, Try.results16, go_sem]) rfl ⟨⟨g1, c1, g2, c2, by rw [(unhide HE).1, (unhide HE).2], ?_, ?_⟩, bc (bc (unhide HWB _ (unhide HW)) (unhide HB5)) (unhide HB6)⟩
              · rw [← (unhide HE).1]
                exact ((unhide HR1).below (unhide HB6)).mono hsw
              · rw [← (unhide HE).2]
                exact (unhide HR2).mono (by omega)
            · go_wp2_with fail
              go_loopw [17, 18] (fun a z W => ∃ (b : Bool) (j : Nat) (I' F' : List Bool), a = .bool b ∧ z = .int .i64 (j : Int) ∧ j ≤ i ∧ Marks H S lo hi I' F' ∧ bblk W gi I' ∧ bblk W gf F' ∧ Below gi wr W ∧ (b = false → frees I' ≤ frees I ∧ ∀ k, k < j → waits H S lo hi I' F' k) ∧ (b = true → frees I' < frees I)) (fun _ z _ => i - (intOf z).toNat)
              case atStart => exact ⟨false, 0, I, F, rfl, rfl, Nat.zero_le _, unhide HK, unhide HI, unhide HF, ⟨rfl, rfl, rfl, Nat.le_refl _, fun _ _ => rfl⟩, fun _ => ⟨Nat.le_refl _, fun k hk => absurd hk (Nat.not_lt_zero _)⟩, by simp⟩
              case round =>
                obtain ⟨b, j, I2, F2, rfl, rfl, hj, hk, hbi, hbf, hbw, hf0, hf1⟩ := hrel
                have HW2 : Hid (∀ W, Below gi wr W → Below w.heap.size w W) := hide (fun W hW => unhide HWB _ ((unhide HW).trans (hbw.trans hW)))
                have HM2 : Hid (∀ W, Below gi wr W → ∀ k, k < i → W.cell? ⟨g, k, none⟩ = some (.int .i64 (gt (mateL H S lo hi) k))) := hide (fun W hW => unhide HCM _ ((unhide HW).trans (hbw.trans hW)))
                have HB2 := hide hbw
                have HK2 := hide hk
                have HI2 := hide hbi
                have HF2 := hide hbf
                have HF0 := hide hf0
                have HF1 := hide hf1
                have HLN := hide (unhide HIL hk)
                clear hk hbi hbf hbw hf0 hf1
                by_cases h : j < i
                · have jz : decide ((j : Int) < (i : Int)) = true := decide_eq_true (by omega)
                  have j1 : (j : Int) < (i : Int) := by omega
                  have j0 : (0 : Int) ≤ (j : Int) := Int.natCast_nonneg _
                  have ci : wr.cell? ⟨gi, j, none⟩ = some (.bool (bt I2 j)) := (unhide HI2).cell (bt_some (by rw [(unhide HLN).1]; exact h))
                  have cm := unhide HM2 wr (Below.refl _ _) j h
                  obtain ⟨ml, mr⟩ := unhide HMA j h
                  have HWT : Hid (waits H S lo hi I2 F2 j ↔ (bt I2 j = true ∨ (0 ≤ gt (mateL H S lo hi) j ∧ bt F2 (gt (mateL H S lo hi) j).toNat = false))) := hide Iff.rfl
                  generalize gt (mateL H S lo hi) j = mj at *
                  have fzi : ∀ o, wr.frozen? ⟨gi, o, none⟩ = false := vblk.frozen (unhide HI2)
                  have fzf : ∀ o, wr.frozen? ⟨gf, o, none⟩ = false := vblk.frozen (unhide HF2)
                  by_cases hwt : waits H S lo hi I2 F2 j
                  · have HN : Hid (b = false → frees I2 ≤ frees I ∧ ∀ k, k < j + 1 → waits H S lo hi I2 F2 k) := hide (fun hb => ⟨(unhide HF0 hb).1, fun k hk => by
                      by_cases e : k = j
                      · rw [e]; exact hwt
                      · exact (unhide HF0 hb).2 k (by omega)⟩)
                    have hor := (unhide HWT).1 hwt
                    clear hwt
                    by_cases hbj : bt I2 j = true
                    · rw [hbj] at ci
                      clear hor cm
                      go_wp2_with fail
                      go_roundw
                      case rel => exact ⟨b, j + 1, I2, F2, rfl, by simp, h, unhide HK2, unhide HI2, unhide HF2, unhide HB2, unhide HN, unhide HF1⟩
                      case measure => simp only [intOf]; omega
                    · obtain ⟨hm0, hfm⟩ := hor.resolve_left hbj
                      have hbj' : bt I2 j = false := by simpa using hbj
                      rw [hbj'] at ci
                      obtain ⟨mn, rfl⟩ := Int.eq_ofNat_of_zero_le hm0
                      rw [Int.toNat_natCast] at hfm
                      have cf : wr.cell? ⟨gf, mn, none⟩ = some (.bool false) := by
                        rw [← hfm]; exact (unhide HF2).cell (bt_some (by rw [(unhide HLN).2]; omega))
                      have mz : decide ((0 : Int) ≤ (mn : Int)) = true := decide_eq_true hm0
                      clear hor hbj hbj' hfm
                      go_wp2_with fail
                      go_roundw
                      case rel => exact ⟨b, j + 1, I2, F2, rfl, by simp, h, unhide HK2, unhide HI2, unhide HF2, unhide HB2, unhide HN, unhide HF1⟩
                      case measure => simp only [intOf]; omega
                  · have hno : ¬ bt I2 j = true ∧ (mj < 0 ∨ ∃ mn : Nat, mj = (mn : Int) ∧ mn < m ∧ bt F2 mn = true) := by
                      refine ⟨fun hb => hwt ((unhide HWT).2 (.inl hb)), ?_⟩
                      by_cases h0 : mj < 0
                      · exact .inl h0
                      · refine .inr ⟨mj.toNat, by omega, by omega, ?_⟩
                        rw [← Bool.not_eq_false]
                        intro hb
                        exact hwt ((unhide HWT).2 (.inr ⟨by omega, hb⟩))
                    have HNO := hide hwt
                    have HFS : Hid (frees (I2.set j true) < frees I) := hide (by
                      have h1 := frees_set (u := I2) (i := j) (by rw [(unhide HLN).1]; exact h) (by simpa using hno.1)
                      cases b
                      · have := (unhide HF0 rfl).1; omega
                      · have := unhide HF1 rfl; omega)
                    have hbj' : bt I2 j = false := by simpa using hno.1
                    rw [hbj'] at ci
                    have hor := hno.2
                    clear hno hwt hbj' HWT
                    have HIs : Hid (bblk (wr.setCell ⟨gi, j, none⟩ (.bool true)) gi (I2.set j true)) := hide ((unhide HI2).set j true)
                    have HFs : Hid (bblk (wr.setCell ⟨gi, j, none⟩ (.bool true)) gf F2) := hide ((unhide HF2).off hfi)
                    have HBs : Hid (Below gi wr (wr.setCell ⟨gi, j, none⟩ (.bool true))) := hide (below_set (Below.refl _ _) (Nat.le_refl _) _ _)
                    have HFJ := hide (unhide HFB j)
                    obtain ⟨Wn, hWn⟩ : ∃ Wn, Wn = wr := ⟨_, rfl⟩
                    have hor' : (mj < 0 ∧ decide ((0 : Int) ≤ mj) = false) ∨ ∃ mn : Nat, mj = (mn : Int) ∧ mn < m ∧ (0 : Int) ≤ (mn : Int) ∧ decide ((0 : Int) ≤ (mn : Int)) = true ∧ wr.cell? ⟨gf, mn, none⟩ = some (.bool true) := by
                      rcases hor with h0 | ⟨mn, e, hmn, hfm⟩
                      · exact .inl ⟨h0, decide_eq_false (by omega)⟩
                      · exact .inr ⟨mn, e, hmn, by omega, decide_eq_true (by omega), by rw [← hfm]; exact (unhide HF2).cell (bt_some (by rw [(unhide HLN).2]; omega))⟩
                    clear hor
                    rcases hor' with ⟨h0, mz⟩ | ⟨mn, rfl, hmn, m00, mz, cf⟩
                    all_goals
                      go_wp2_with fail
                      clear ci cm
                      go_loopw [19] (fun z W => ∃ (k : Nat) (F3 : List Bool), z = .int .i64 (k : Int) ∧ k ≤ m ∧ F3.length = m ∧ (∀ x, x < m → bt F3 x = if x < k then (bt F2 x || fitB H S lo hi (j : Int) (x : Int)) else bt F2 x) ∧ bblk W gi (I2.set j true) ∧ bblk W gf F3 ∧ Below gi Wn W) (fun z _ => m - (intOf z).toNat)
                      case atStart => exact ⟨0, F2, rfl, Nat.zero_le _, (unhide HLN).2, fun x _ => by rw [if_neg (by omega)], unhide HIs, unhide HFs, by rw [hWn]; exact unhide HBs⟩
                      case round =>
                        obtain ⟨k, F3, rfl, hk, hfl, hfp, hbi, hbf, hbw⟩ := hrel
                        have HFP := hide hfp
                        have HI3 := hide hbi
                        have HF3 := hide hbf
                        have HB3 := hide hbw
                        have HFL := hide hfl
                        subst hWn
                        have hbw2 := unhide HW2 _ hbw
                        have HB32 := hide hbw2
                        clear hfp hbi hbf hbw hfl
                        by_cases h3 : k < m
                        · have kz : decide ((k : Int) < (m : Int)) = true := decide_eq_true (by omega)
                          have k1 : (k : Int) < (m : Int) := by omega
                          have k0 : (0 : Int) ≤ (k : Int) := Int.natCast_nonneg _
                          obtain ⟨hb_, ho_, rfl, hbl, ch, gh0, gh1⟩ := unhide HHC wr hbw2 j h
                          obtain ⟨sb_, so_, rfl, sbl, cs, gs0, gs1⟩ := unhide HSC wr hbw2 k h3
                          have cf3 : wr.cell? ⟨gf, k, none⟩ = some (.bool (bt F3 k)) := (unhide HF3).cell (bt_some (by rw [unhide HFL]; exact h3))
                          have fz3 : ∀ o, wr.frozen? ⟨gf, o, none⟩ = false := vblk.frozen (unhide HF3)
                          have HFK := hide (unhide HFJ k)
                          have HNX3 : Hid (∀ x, x = (bt F3 k || fitB H S lo hi (j : Int) (k : Int)) → ∀ y, y < m → bt (F3.set k x) y = if y < k + 1 then (bt F2 y || fitB H S lo hi (j : Int) (y : Int)) else bt F2 y) := hide (fun x hx y hy => by
                            rw [bt_set _ _ _ _ (by rw [unhide HFL]; exact h3)]
                            by_cases e : y = k
                            · subst e
                              rw [if_pos rfl, if_pos (by omega), hx, unhide HFP y hy, if_neg (by omega)]
                            · rw [if_neg e, unhide HFP y hy]
                              by_cases e2 : y < k
                              · rw [if_pos e2, if_pos (by omega)]
                              · rw [if_neg e2, if_neg (by omega)])
                          clear hbw2
                          generalize gt H j = xh at *
                          generalize gt S k = xs at *
                          generalize hub : bt F3 k = ub at *
                          have HGO : Hid (∀ (x : Bool) (W : World), x = (ub || fitB H S lo hi (j : Int) (k : Int)) → W.heap = wr.heap → W.os = wr.os → W.tape = wr.tape → W.output = wr.output → ∃ (k' : Nat) (F4 : List Bool), Value.int .i64 ((k : Int) + 1) = .int .i64 (k' : Int) ∧ k' ≤ m ∧ F4.length = m ∧ (∀ x, x < m → bt F4 x = if x < k' then (bt F2 x || fitB H S lo hi (j : Int) (x : Int)) else bt F2 x) ∧ bblk (W.setCell ⟨gf, k, none⟩ (.bool x)) gi (I2.set j true) ∧ bblk (W.setCell ⟨gf, k, none⟩ (.bool x)) gf F4 ∧ Below gi Wn (W.setCell ⟨gf, k, none⟩ (.bool x))) := hide (fun x W hx hh ho ht hp => by
                            have q1 : bblk W gi (I2.set j true) := by have := unhide HI3; unfold bblk vblk at this ⊢; rw [hh]; exact this
                            have q2 : bblk W gf F3 := by have := unhide HF3; unfold bblk vblk at this ⊢; rw [hh]; exact this
                            have q3 : Below gi Wn W := (unhide HB3).trans ⟨ho, ht, hp, by rw [hh]; exact Nat.le_refl _, fun _ _ => by rw [hh]⟩
                            exact ⟨k + 1, F3.set k x, by simp, h3, by rw [List.length_set]; exact unhide HFL, unhide HNX3 x hx, q1.off hif, q2.set k x, below_set q3 hgg _ _⟩)
                          clear HNX3 hub
                          cases ub
                          · by_cases g1 : lo ≤ xh - xs
                            · have d1 : decide (lo ≤ xh - xs) = true := decide_eq_true g1
                              by_cases g2 : xh - xs ≤ hi
                              · have d2 : decide (xh - xs ≤ hi) = true := decide_eq_true g2
                                go_wp2_with fail
                                go_quiet (fail)
                                go_wp2_with fail
                                go_roundw
                                case rel => exact unhide HGO _ _ (by rw [unhide HFK, d1, d2]; rfl) rfl rfl rfl rfl
                                case measure => simp only [intOf]; omega
                              · have d2 : decide (xh - xs ≤ hi) = false := decide_eq_false g2
                                go_wp2_with fail
                                go_quiet (fail)
                                go_wp2_with fail
                                go_roundw
                                case rel => exact unhide HGO _ _ (by rw [unhide HFK, d1, d2]; rfl) rfl rfl rfl rfl
                                case measure => simp only [intOf]; omega
                            · have d1 : decide (lo ≤ xh - xs) = false := decide_eq_false g1
                              go_wp2_with fail
                              go_quiet (fail)
                              go_wp2_with fail
                              go_roundw
                              case rel => exact unhide HGO _ _ (by rw [unhide HFK, d1]; rfl) rfl rfl rfl rfl
                              case measure => simp only [intOf]; omega
                          · go_wp2_with fail
                            go_quiet (fail)
                            go_wp2_with fail
                            go_roundw
                            case rel => exact unhide HGO _ _ (by rfl) rfl rfl rfl rfl
                            case measure => simp only [intOf]; omega
                        · have kz : decide ((k : Int) < (m : Int)) = false := decide_eq_false (by omega)
                          have ek : k = m := by omega
                          subst ek
                          have HMK : Hid (Marks H S lo hi (I2.set j true) F3) := hide (unhide HNX (unhide HK2) h (unhide HNO) (unhide HFL) (fun x hx => by rw [unhide HFP x hx, if_pos hx]))
                          go_wp2_with fail
                          go_roundw
                          case rel => exact ⟨true, j + 1, I2.set j true, F3, rfl, by simp, h, unhide HMK, unhide HI3, unhide HF3, (unhide HB2).trans (unhide HB3), by simp, fun _ => unhide HFS⟩
                          case measure => simp only [intOf]; omega
                · have jz : decide ((j : Int) < (i : Int)) = false := decide_eq_false (by omega)
                  have ej : j = i := by omega
                  subst ej
                  go_wp2_with fail
                  go_roundw
                  case rel =>
                    exact ⟨b, I2, F2, rfl, unhide HK2, unhide HI2, unhide HF2, (unhide HW).trans (unhide HB2), fun hb => (unhide HF0 hb).2⟩
                  case measure =>
                    have e1 := freesAt_eq (unhide HI2)
                    have e2 := unhide HFR
                    cases b
                    · have := (unhide HF0 rfl).1
                      simp only [boolOf]; omega
                    · have := unhide HF1 rfl
                      simp only [boolOf]; omega
/-- the told holes and shafts of any lists -/
noncomputable def bkH (H S : List Int) (lo hi : Int) : List Int := if mtC H S lo hi = 0 then those (TH H S lo hi) H.length else []
noncomputable def bkS (H S : List Int) (lo hi : Int) : List Int := if mtC H S lo hi = 0 then those (TS H S lo hi) S.length else []
/-- the model's, at all lists and bounds -/
theorem bkM_any (u v : Option Addr) (p po n cu q qo m cv : Nat) (H S : List Int) (lo hi : Int) (w : World) (hl : H.length = n) (hm : S.length = m) (hn : n ≤ 1048576) (hm2 : m ≤ 1048576) (hu : Its w u p po H) (hv : Its w v q qo S) :
    Calls Try.prog 16 #[.slice u n cu, .slice v m cv, .int .i64 lo, .int .i64 hi] w fun e w' => (∃ g1 c1 g2 c2, e = .returned (.tuple #[.slice (some ⟨g1, 0, none⟩) (bkH H S lo hi).length c1, .slice (some ⟨g2, 0, none⟩) (bkS H S lo hi).length c2, .int .i64 (mtC H S lo hi)]) ∧ Row w' w.heap.size 3 1 (.slice (some ⟨g1, 0, none⟩) (bkH H S lo hi).length c1) (bkH H S lo hi).length (bkH H S lo hi) ∧ Row w' w.heap.size 3 1 (.slice (some ⟨g2, 0, none⟩) (bkS H S lo hi).length c2) (bkS H S lo hi).length (bkS H S lo hi)) ∧ Below w.heap.size w w' := by
  by_cases hC : mtC H S lo hi = 0
  · have h := bkM_right u v p po n cu q qo m cv H S lo hi w hl hm hu hv hC
    have e1 : bkH H S lo hi = those (TH H S lo hi) n := by unfold bkH; rw [if_pos hC, hl]
    have e2 : bkS H S lo hi = those (TS H S lo hi) m := by unfold bkS; rw [if_pos hC, hm]
    rw [hC, e1, e2]
    exact h
  · have HM := hide (mtM_any u v p po n cu q qo m cv H S lo hi w hl hm hn hm2 hu hv)
    have e1 : bkH H S lo hi = [] := by unfold bkH; rw [if_neg hC]
    have e2 : bkS H S lo hi = [] := by unfold bkS; rw [if_neg hC]
    rw [e1, e2]
    have cz : (mtC H S lo hi != 0) = true := by rw [bne_iff_ne]; exact hC
    clear hu hv hC e1 e2
    generalize mtC H S lo hi = C at *
    generalize mtP H S lo hi = P at *
    go_enter Try.func16, Try.ntmps16
    go_wp2_with fail
    refine (unhide HM).mono ?_
    rintro e W1 ⟨⟨val, rfl, hpa⟩, hb1⟩
    have HB1 := hide hb1
    have hs1 := hb1.size
    clear hpa hb1
    go_wp2_with fail
    refine bodyPost_ret (v := .tuple #[.slice (some ⟨W1.heap.size, 0, none⟩) 0 0, .slice (some ⟨W1.heap.size + 1, 0, none⟩) 0 0, .int .i64 C]) (by simp [results, Try.results16, go_sem]) rfl ⟨⟨_, _, _, _, rfl, ?_, ?_⟩, ba (ba (unhide HB1) _) _⟩
    · exact (row_made W1 3 w.heap.size 1 hs1 _ rfl).below (ba (Below.refl _ _) _)
    · have := row_made (W1.alloc (.cells #[] 3)) 3 w.heap.size 1 (by simp; omega) (W1.heap.size + 1) (by simp)
      exact this
end Go.Proofs.Ytmoobfbjehgdnaa
