/-
  The sways of masses by the model.
-/
import Derived.Test.YtgocgcnpgmamiaaSwP
import Derived.Test.YtgocgcnpgmamiaaSwMr
namespace Go.Proofs.Ytgocgcnpgmamiaa
open Go.ChangeShapes Go.WideShapes Go.ChangeAt Go.RowKit
set_option linter.unusedVariables false
set_option linter.unusedSimpArgs false
attribute [local go_sem] run_store_flt run_store_cpx

theorem cS {V : World} {a b c d : Nat} {T : Tn} (h : tadd (tv a b) (tv c d) = T) : Hid (∀ Xw, Below V.heap.size V Xw → Calls Try.prog 46 #[.agg #[.float .f64 a, .float .f64 b], .agg #[.float .f64 c, .float .f64 d]] Xw fun e w' => (∃ re im : Nat, e = .returned (.agg #[.float .f64 re, .float .f64 im]) ∧ tv re im = T) ∧ Below Xw.heap.size Xw w') := hide fun Xw _ => (sumM a b c d Xw).mono fun e w' ⟨⟨re, im, h1, h2⟩, h3⟩ => ⟨⟨re, im, h1, h2.trans h⟩, h3⟩
theorem cM {V : World} {a b c d : Nat} {T : Tn} (h : tmul (tv a b) (tv c d) = T) : Hid (∀ Xw, Below V.heap.size V Xw → Calls Try.prog 50 #[.agg #[.float .f64 a, .float .f64 b], .agg #[.float .f64 c, .float .f64 d]] Xw fun e w' => (∃ re im : Nat, e = .returned (.agg #[.float .f64 re, .float .f64 im]) ∧ tv re im = T) ∧ Below Xw.heap.size Xw w') := hide fun Xw _ => (mulM a b c d Xw).mono fun e w' ⟨⟨re, im, h1, h2⟩, h3⟩ => ⟨⟨re, im, h1, h2.trans h⟩, h3⟩
theorem cH {V : World} {a b c d : Nat} {T : Tn} (h : tshare (tv a b) (tv c d) = T) : Hid (∀ Xw, Below V.heap.size V Xw → Calls Try.prog 49 #[.agg #[.float .f64 a, .float .f64 b], .agg #[.float .f64 c, .float .f64 d]] Xw fun e w' => (∃ re im : Nat, e = .returned (.agg #[.float .f64 re, .float .f64 im]) ∧ tv re im = T) ∧ Below Xw.heap.size Xw w') := hide fun Xw _ => (shareM a b c d Xw).mono fun e w' ⟨⟨re, im, h1, h2⟩, h3⟩ => ⟨⟨re, im, h1, h2.trans h⟩, h3⟩
theorem cO {V : World} {x0 x1 x2 wb : Nat} {T : Tn} (h : own_ x0 wb = T) : Hid (∀ Xw, Below V.heap.size V Xw → Calls Try.prog 47 #[.agg #[.float .f64 x0, .float .f64 x1, .float .f64 x2], .float .f64 wb] Xw fun e w' => (∃ re im : Nat, e = .returned (.agg #[.float .f64 re, .float .f64 im]) ∧ tv re im = T) ∧ Below Xw.heap.size Xw w') := hide fun Xw _ => (ownM x0 x1 x2 wb Xw).mono fun e w' ⟨⟨re, im, h1, h2⟩, h3⟩ => ⟨⟨re, im, h1, h2.trans h⟩, h3⟩
theorem cL {V : World} {x0 x1 x2 wb : Nat} {T : Tn} (h : lnk x1 x2 wb = T) : Hid (∀ Xw, Below V.heap.size V Xw → Calls Try.prog 48 #[.agg #[.float .f64 x0, .float .f64 x1, .float .f64 x2], .float .f64 wb] Xw fun e w' => (∃ re im : Nat, e = .returned (.agg #[.float .f64 re, .float .f64 im]) ∧ tv re im = T) ∧ Below Xw.heap.size Xw w') := hide fun Xw _ => (linkM x0 x1 x2 wb Xw).mono fun e w' ⟨⟨re, im, h1, h2⟩, h3⟩ => ⟨⟨re, im, h1, h2.trans h⟩, h3⟩
/-- the first i drags, part by part -/
def drF (L : List Nat) (wb : Nat) : Nat → List (Option Nat)
  | 0 => []
  | i + 1 => drF L wb i ++ [(drg L wb i).1, (drg L wb i).2]
theorem drF_len (L : List Nat) (wb i : Nat) : (drF L wb i).length = i * 2 := by
  induction i with
  | zero => rfl
  | succ i ih => simp [drF, ih]; omega
theorem drF_at (L : List Nat) (wb i j : Nat) (h : j < i) : (drF L wb i)[j * 2]? = some (drg L wb j).1 ∧ (drF L wb i)[j * 2 + 1]? = some (drg L wb j).2 := by
  induction i with
  | zero => omega
  | succ i ih =>
    simp only [drF]
    by_cases hj : j < i
    · rw [List.getElem?_append_left (by rw [drF_len]; omega), List.getElem?_append_left (by rw [drF_len]; omega)]
      exact ih hj
    · have : j = i := by omega
      subst this
      rw [List.getElem?_append_right (by rw [drF_len]; omega), List.getElem?_append_right (by rw [drF_len]; omega), drF_len, Nat.sub_self, show j * 2 + 1 - j * 2 = 1 by omega]
      exact ⟨rfl, rfl⟩
theorem row_drg {L R : List Nat} {wb i j : Nat} (hF : R.map (Fv .f64) = drF L wb i) (h : j < i) : ∃ d0 d1, R[j * 2]? = some d0 ∧ R[j * 2 + 1]? = some d1 ∧ tv d0 d1 = drg L wb j := by
  obtain ⟨h1, h2⟩ := drF_at L wb i j h
  rw [← hF, List.getElem?_map] at h1 h2
  obtain ⟨d0, e0, f0⟩ := map_some' h1
  obtain ⟨d1, e1, f1⟩ := map_some' h2
  exact ⟨d0, d1, e0, e1, by unfold tv; rw [f0, f1]⟩
theorem frow_of {w : World} {B g t : Nat} {a b : Nat} (h : vb w g t [.float .f64 a, .float .f64 b]) (hB : B ≤ g) : FRow .f64 w B t 2 (.slice (some ⟨g, 0, none⟩) 1 1) 1 [a, b] :=
  ⟨rfl, .inr ⟨g, 1, ([a, b].map (Value.float .f64)).toArray, rfl, hB, h, Nat.le_refl _, by unfold maxLen; omega, rfl, rfl⟩⟩
theorem empty_ans (w : World) : FAns .f64 (w.alloc (.cells #[] 33)) w.heap.size 33 2 (.slice (some ⟨w.heap.size, 0, none⟩) 0 0) 0 [] := ⟨[], frow_made w 33 _ 2 (Nat.le_refl _) _ rfl, rfl⟩
theorem FAns.low {fk : FloatKind} {w : World} {B B' t k n : Nat} {v : Value} {F : List (Option Nat)} (h : FAns fk w B t k v n F) (hb : B' ≤ B) : FAns fk w B' t k v n F := by
  obtain ⟨R, h1, h2⟩ := h
  exact ⟨R, h1.mono hb, h2⟩
set_option maxHeartbeats 4000000 in
set_option maxRecDepth 10000 in
theorem swayM_any (u : Option Addr) (p po n c : Nat) (L : List Nat) (wb : Nat) (w : World) (hl : L.length = n * 3) (hn : n ≤ 9223372036854775807) (hu : Fls .f64 w u p po L) :
    Calls Try.prog 13 #[.slice u n c, .float .f64 wb] w fun e w' => (∃ v, e = .returned (.tuple #[v, .int .i64 (swC n L wb)]) ∧ FAns .f64 w' w.heap.size 33 2 v (swN n L wb) (swF n L wb)) ∧ Below w.heap.size w w' := by
  have HU := hide hu
  have HL := hide hl
  have n0 : (0 : Int) ≤ (n : Int) := Int.natCast_nonneg _
  clear hu hl
  by_cases h1 : 4096 < n
  · have t1 : decide ((4096 : Int) < (n : Int)) = true := decide_eq_true (by omega)
    have hc := swC_long (L := L) (wb := wb) h1
    rw [hc]
    go_enter Try.func13, Try.ntmps13
    go_wp2_with fail
    exact bodyPost_ret (v := .tuple #[.slice (some ⟨w.heap.size, 0, none⟩) 0 0, .int .i64 2]) (by simp [results, Try.results13, go_sem]) rfl ⟨⟨_, rfl, sw_none (by rw [hc]; omega) (empty_ans w)⟩, ba (Below.refl _ _) _⟩
  · have t1 : decide ((4096 : Int) < (n : Int)) = false := decide_eq_false (by omega)
    have HM := hide (masM u p po n c L wb w (unhide HL) hn (unhide HU))
    cases hok : swOk n L wb with
    | false =>
      have hc := swC_bad (L := L) (wb := wb) h1 hok
      rw [hc]
      have HC9 := hide hc
      clear hc
      rw [hok] at HM
      go_enter Try.func13, Try.ntmps13
      go_wp2_with fail
      refine (unhide HM).mono ?_
      rintro e W1 ⟨rfl, hb⟩
      have HB := hide hb
      clear hb
      go_wp2_with fail
      exact bodyPost_ret (v := .tuple #[.slice (some ⟨W1.heap.size, 0, none⟩) 0 0, .int .i64 1]) (by simp [results, Try.results13, go_sem]) rfl ⟨⟨_, rfl, sw_none (by rw [unhide HC9]; omega) ((empty_ans W1).low (unhide HB).size)⟩, ba (unhide HB) _⟩
    | true =>
      have HOK := hide hok
      have HH1 := hide h1
      rw [hok] at HM
      have hb20 : 1 ≤ n ∧ n ≤ 20 := by
        unfold swOk at hok
        simp only [Bool.and_eq_true, decide_eq_true_eq] at hok
        exact hok.1.1
      obtain ⟨m, hnm⟩ : ∃ m, n = m + 1 := ⟨n - 1, by omega⟩
      have n20 := hb20.2
      have npos : 0 < n := hb20.1
      have hmn : m < n := by omega
      have w1 : IntKind.i64.wrap ((n : Int) - 1) = (m : Int) := by rw [show (n : Int) - 1 = (m : Int) by omega]; exact wrap_i (by omega) (by omega)
      have m0 : (0 : Int) ≤ (m : Int) := Int.natCast_nonneg _
      have mlt : (m : Int) < (n : Int) := by omega
      have HNM := hide hnm
      clear hok h1 hb20 hnm
      go_enter Try.func13, Try.ntmps13
      go_wp2_with fail
      refine (unhide HM).mono ?_
      rintro e W1 ⟨rfl, hb⟩
      have HW1 := hide hb
      obtain ⟨x0, x1, x2, e0, e1, e2, rfl, pw, k0, k1, k2⟩ := ((unhide HU).bel hb).mass (unhide HL) npos
      have HOW := hide (ow_at wb e0)
      have HLK := hide (lk_at wb e1 e2)
      simp only [Nat.zero_mul, Nat.add_zero] at k0 k1 k2
      clear hb HM pw e0 e1 e2
      go_wp2_with fail
      refine Go.Code.wp_mono (Only.to (fun _ _ h => h)) (sw5 (Ts := drg L wb 0) (hide k0) (hide k1) (hide k2) (hide npos) (cO rfl) (hide npos) (cL rfl) (hide fun re4 im4 h4 re9 im9 h9 => unhide (cS (by rw [h4, h9, ← unhide HOW, ← unhide HLK]; rfl))) ?_)
      intro g5 _ _ _ _ rex imx W2 hb2 hv2 hg2 _ _ hx
      have HW2 := hide (bc (unhide HW1) hb2)
      have HR2 := hide (frow_of (B := w.heap.size) hv2 (Nat.le_trans (unhide HW1).size hg2))
      have HF2 : Hid ([rex, imx].map (Fv .f64) = drF L wb 1) := hide (by simp only [drF, ← hx]; rfl)
      clear hb2 hv2 hg2 hx k0 k1 k2 HW1 HOW HLK
      go_wp2_with fail
      go_loopw [6, 7] (fun s t W => ∃ (i gd cd : Nat) (R : List Nat), s = .slice (some ⟨gd, 0, none⟩) i cd ∧ t = .int .i64 (i : Int) ∧ 1 ≤ i ∧ i ≤ n ∧ FRow .f64 W w.heap.size 33 2 (.slice (some ⟨gd, 0, none⟩) i cd) i R ∧ R.map (Fv .f64) = drF L wb i ∧ Below w.heap.size w W) (fun _ s _ => n - (intOf s).toNat)
      case atStart => exact ⟨1, g5, 1, [rex, imx], rfl, rfl, Nat.le_refl _, npos, unhide HR2, unhide HF2, unhide HW2⟩
      case round =>
        obtain ⟨i, gd, cd, R, rfl, rfl, hi1, hi, hr, hF, hw⟩ := hrel
        have HR := hide hr
        have HF := hide hF
        have HW := hide hw
        clear hr hF hw HR2 HF2 HW2
        have i0 : (0 : Int) ≤ (i : Int) := Int.natCast_nonneg _
        by_cases h : i < n
        · have i1 : (i : Int) < (n : Int) := by omega
          have iz : decide ((i : Int) < (n : Int)) = true := decide_eq_true i1
          obtain ⟨y0, y1, y2, e0, e1, e2, _, pw, k0, k1, k2⟩ := ((unhide HU).bel (unhide HW)).mass (unhide HL) h
          have HOW := hide (ow_at wb e0)
          have HLK := hide (lk_at wb e1 e2)
          obtain ⟨j, hj⟩ : ∃ j, i = j + 1 := ⟨i - 1, by omega⟩
          have hji : j < i := by omega
          have wj : IntKind.i64.wrap ((i : Int) - 1) = (j : Int) := by rw [show (i : Int) - 1 = (j : Int) by omega]; exact wrap_i (by omega) (by omega)
          obtain ⟨d0, d1, ed0, ed1, hd⟩ := row_drg (unhide HF) hji
          have HD := hide hd
          have HE0 := hide ed0
          have HE1 := hide ed1
          have HJ := hide hj
          clear e0 e1 e2 ed0 ed1 hd hj
          go_wp2_with fail
          refine (unhide (cL (V := wr) rfl) _ (Below.refl _ _)).mono ?_
          rintro e W3 ⟨⟨l0, l1, rfl, hlv⟩, hb3⟩
          have HLV : Hid (tv l0 l1 = lk L wb i) := hide (by rw [hlv, unhide HLK])
          have HW3 := hide (bc (unhide HW) hb3)
          have HR3 := hide ((unhide HR).below hb3)
          have K0 := hide (keep1 hb3 k0)
          have K1 := hide (keep1 hb3 k1)
          have K2 := hide (keep1 hb3 k2)
          clear hb3 hlv k0 k1 k2 pw
          go_wp2_with fail
          have HR4 := hide ((unhide HR3).below (ba (Below.refl _ _) (.cells #[.float .f64 l0, .float .f64 l1] 33)))
          refine Go.Code.wp_mono (Only.to (fun _ _ h => h)) (sw10 (j := j) (d0 := d0) (d1 := d1) (l0 := l0) (l1 := l1) (Ts := tadd (drg L wb j) (lk L wb i)) (hide ((unhide HR4).cellAt (unhide HE0))) (hide ((unhide HR4).cellAt (unhide HE1))) (hide (by simp [go_sem])) (hide (by simp [go_sem])) (hide wj) (hide hji) (cS (by rw [unhide HD, unhide HLV])) ?_)
          intro gb b0 b1 W5 hb5 hvb hgb hbt
          have L0 : Hid (W5.cell? ⟨W3.heap.size, 0, none⟩ = some (.float .f64 l0)) := hide (keep1 hb5 (by simp [go_sem]))
          have L1 : Hid (W5.cell? ⟨W3.heap.size, 1, none⟩ = some (.float .f64 l1)) := hide (keep1 hb5 (by simp [go_sem]))
          have HR5 := hide ((unhide HR4).below hb5)
          have HW5 := hide (bc (ba (unhide HW3) _) hb5)
          have K0a := keep1 hb5 (ka (unhide K0))
          have K1a := keep1 hb5 (ka (unhide K1))
          have K2a := keep1 hb5 (ka (unhide K2))
          have HVB := hide hvb
          have HBT := hide hbt
          clear hb5 hvb hgb hbt K0 K1 K2 HR3 HR4 HW3
          go_wp2_with fail
          refine Go.Code.wp_mono (Only.to (fun _ _ h => h)) (sw11 (j := j) (d0 := d0) (d1 := d1) (l0 := l0) (l1 := l1) (b0 := b0) (b1 := b1) (To := ow L wb i) (Tm := tmul (lk L wb i) (drg L wb j)) (Ty_ := tshare (tmul (lk L wb i) (drg L wb j)) (tadd (drg L wb j) (lk L wb i))) (Tz := drg L wb i) HR5 (unhide HW5).size (by omega)
            (hide K0a) (hide K1a) (hide K2a) (hide ((unhide HR5).cellAt (unhide HE0))) (hide ((unhide HR5).cellAt (unhide HE1))) L0 L1 (hide ((unhide HVB).cell (m := 0) rfl)) (hide ((unhide HVB).cell (m := 1) rfl)) (hide h) (cO (unhide HOW).symm) (hide wj) (hide hji) (cM (by rw [unhide HD, unhide HLV]))
            (hide fun rem imm hm => unhide (cH (by rw [hm, unhide HBT]))) (hide fun re6 im6 h6 rey imy hy => unhide (cS (by rw [h6, hy]; have := unhide HJ; subst this; rfl))) ?_)
          intro g17 _ _ _ _ _ _ rez imz rr W6 W9 hb6 _ _ _ hz hrow hgrow
          have hbel : Below w.heap.size wr W9 → True := fun _ => trivial
          obtain ⟨g9, c9, hrr, hB9, hl9, _, _, _⟩ := hrow.full (by omega)
          subst hrr
          have hW9 : Below w.heap.size w W9 := ((unhide HW5).trans (hb6.mono (unhide HW5).size)).grown hgrow (Nat.le_trans (unhide HW5).size hb6.size) (fun g hg => by
            simp only [Value.ownBlock, Option.some.injEq] at hg
            subst hg
            exact (unhide HR5).ge)
          have HROW := hide hrow
          have HW9 := hide hW9
          have HZ := hide hz
          clear hb6 hz hrow hgrow hbel hB9 hl9 hW9 K0a K1a K2a
          go_wp2_with fail
          go_roundw
          case rel =>
            refine ⟨i + 1, g9, c9, R ++ [rez, imz], rfl, by simp, by omega, h, unhide HROW, ?_, unhide HW9⟩
            rw [List.map_append, unhide HF, drF, ← unhide HZ]
            rfl
          case measure => simp only [intOf]; omega
        · have iz : decide ((i : Int) < (n : Int)) = false := decide_eq_false (by omega)
          have en : i = n := by omega
          subst en
          obtain ⟨d0, d1, ed0, ed1, hd⟩ := row_drg (unhide HF) hmn
          have HD := hide hd
          have cd0 := (unhide HR).cellAt ed0
          have cd1 := (unhide HR).cellAt ed1
          clear ed0 ed1 hd
          go_wp2_with fail
          refine (zeroM d0 d1 _).mono ?_
          rintro e W3 ⟨rfl, hb⟩
          rw [unhide HD]
          have HW3 := hide (bc (unhide HW) hb)
          have HR3 := hide ((unhide HR).below hb)
          have ck0 := keep1 hb cd0
          have ck1 := keep1 hb cd1
          clear hb cd0 cd1 HR HW
          cases hz : tzero (drg L wb m) with
          | true =>
            have hc := swC_zero (unhide HH1) (unhide HOK) (by rw [show i - 1 = m by have := unhide HNM; omega]; exact hz)
            have HC9 := hide hc
            clear hc hz
            go_wp2_with fail
            exact bodyPost_ret (v := .tuple #[.slice (some ⟨W3.heap.size, 0, none⟩) 0 0, .int .i64 11]) (by simp [results, Try.results13, go_sem]) rfl ⟨⟨.slice (some ⟨W3.heap.size, 0, none⟩) 0 0, by rw [unhide HC9], sw_none (by rw [unhide HC9]; omega) ((empty_ans W3).low (unhide HW3).size)⟩, ba (unhide HW3) _⟩
          | false =>
            have hc := swC_ok (unhide HH1) (unhide HOK) (by rw [show i - 1 = m by have := unhide HNM; omega]; exact hz)
            have HC9 := hide hc
            clear hc hz
            have hmk := make_flts (fk := .f64) (P := Try.prog) 25 33 2 16 i Try.underlying25 (.agg #[.float .f64 0, .float .f64 0]) (by rfl) (by omega) tone_info (by omega) (by omega) W3
            generalize hzz : fzeros (i * 2) = Z at hmk
            have HZn : Hid (Z.length = i * 2) := hide (by rw [← hzz]; simp [fzeros])
            have ld := cell_lt ck0
            clear hzz
            go_wp2_with fail
            have HG := hide (fblk_new (fk := .f64) W3 33 Z)
            have HB0 := hide (ba (Below.refl W3.heap.size W3) (.cells (Z.map (Value.float .f64)).toArray 33))
            clear hmk
            refine (divM _ _ _ _ _).mono ?_
            rintro e W4 ⟨⟨ra, rb, rfl, hv⟩, hb⟩
            have HV : Hid (tv ra rb = swf L wb m 0) := hide (by rw [hv, unhide HD]; rfl)
            have HG4 := hide ((unhide HG).bel hb)
            have HB4 := hide (bc (unhide HB0) hb)
            obtain ⟨y0, e0⟩ := fat_of (f := 0) (unhide HZn) hmn (by omega)
            obtain ⟨y1, e1⟩ := fat_of (f := 1) (unhide HZn) hmn (by omega)
            have c0 : W4.cell? ⟨W3.heap.size, m * 2, none⟩ = some (.float .f64 y0) := (unhide HG4).cell e0
            have c1 : W4.cell? ⟨W3.heap.size, m * 2 + 1, none⟩ = some (.float .f64 y1) := (unhide HG4).cell e1
            have fz := (unhide HG4).frozen
            have lg := (unhide HG4).lt
            clear hb e0 e1 HG HB0 hv
            go_wp2_with fail
            have HG5 := hide (((unhide HG4).set (m * 2) ra).set (m * 2 + 1) rb)
            have HB5 := hide (bs (v := .float .f64 rb) (o := m * 2 + 1) (bs (v := .float .f64 ra) (o := m * 2) (unhide HB4) (Nat.le_refl _)) (Nat.le_refl _))
            go_loopw [12] (fun t W => ∃ (d : Nat) (R : List Nat), t = .int .i64 ((m : Int) - 1 - (d : Int)) ∧ d ≤ m ∧ R.length = i * 2 ∧ fblk .f64 W W3.heap.size 33 R ∧ (R.drop ((m - d) * 2)).map (Fv .f64) = sfx L wb m (d + 1) ∧ Below W3.heap.size W3 W) (fun s _ => ((intOf s) + 1).toNat)
            case atStart =>
              refine ⟨0, _, by simp [go_sem], Nat.zero_le _, by simp [unhide HZn], unhide HG5, ?_, unhide HB5⟩
              have := unhide HV
              exact back2 [] Z m i ra rb _ _ (unhide HZn) hmn (by rw [List.drop_eq_nil_of_le (by rw [unhide HZn, unhide HNM]; omega)]; rfl) (congrArg Prod.fst this) (congrArg Prod.snd this)
            case round =>
              obtain ⟨d, R2, rfl, hdm, hR2, hg, hF2, hw⟩ := hrel
              have HR2 := hide hR2
              have HGR := hide hg
              have HF2 := hide hF2
              have HW := hide hw
              clear hR2 hg hF2 hw HG5 HB5 HG4 HB4 HV c0 c1 fz lg
              by_cases hd : d < m
              · obtain ⟨k, hk⟩ : ∃ k, k = m - 1 - d := ⟨_, rfl⟩
                obtain ⟨q, hq⟩ : ∃ q, q = m - d := ⟨_, rfl⟩
                have iI : (m : Int) - 1 - (d : Int) = (k : Int) := by omega
                rw [iI]
                have HK := hide hk
                have HQ := hide hq
                have iq : k + 1 = q := by omega
                have HIQ := hide iq
                have k0 : (0 : Int) ≤ (k : Int) := Int.natCast_nonneg _
                have q0 : (0 : Int) ≤ (q : Int) := Int.natCast_nonneg _
                have hkn : k < i := by omega
                have hqn : q < i := by have := unhide HNM; omega
                have q1 : (q : Int) < (i : Int) := by omega
                have kz : decide ((0 : Int) ≤ (k : Int)) = true := decide_eq_true k0
                have wq : IntKind.i64.wrap ((k : Int) + 1) = (q : Int) := by rw [show (k : Int) + 1 = (q : Int) by omega]; exact wrap_i (by omega) (by omega)
                have wm1 : IntKind.i64.wrap ((k : Int) - 1) = (k : Int) - 1 := wrap_i (by omega) (by omega)
                obtain ⟨x0', x1', x2', e0, e1, e2, _, pw, c0, c1, c2⟩ := (((unhide HU).bel (unhide HW3)).bel (unhide HW)).mass (unhide HL) hqn
                have HLK := hide (lk_at wb e1 e2)
                obtain ⟨dk0, dk1, ed0, ed1, hdk⟩ := row_drg (unhide HF) hkn
                have HDK := hide hdk
                have HE0 := hide ed0
                have HE1 := hide ed1
                have HRW := hide ((unhide HR3).below (unhide HW))
                have hiq2 : (k : Int) + 1 = (q : Int) := by omega
                clear hk hq iI iq e0 e1 e2 ed0 ed1 hdk
                have HI2 := hide hiq2
                clear hiq2
                go_wp2_with fail
                refine (unhide (cL (V := wr) rfl) _ (Below.refl _ _)).mono ?_
                rintro e W6 ⟨⟨l0, l1, rfl, hlv⟩, hb6⟩
                have HLV : Hid (tv l0 l1 = lk L wb q) := hide (by rw [hlv, unhide HLK])
                have HW6 := hide (bc (unhide HW) hb6)
                have HR6 := hide ((unhide HRW).below hb6)
                have HG6 := hide ((unhide HGR).bel hb6)
                clear hb6 hlv c0 c1 c2 pw
                go_wp2_with fail
                have HR7 := hide ((unhide HR6).below (ba (Below.refl _ _) (.cells #[.float .f64 l0, .float .f64 l1] 33)))
                have HG7 := hide ((unhide HG6).bel (ba (Below.refl _ _) (.cells #[.float .f64 l0, .float .f64 l1] 33)))
                obtain ⟨o0, eo0⟩ := fat_of (f := 0) (unhide HR2) hqn (by omega)
                obtain ⟨o1, eo1⟩ := fat_of (f := 1) (unhide HR2) hqn (by omega)
                obtain ⟨p0, ep0⟩ := fat_of (f := 0) (unhide HR2) hkn (by omega)
                obtain ⟨p1, ep1⟩ := fat_of (f := 1) (unhide HR2) hkn (by omega)
                have HOV : Hid (tv o0 o1 = swf L wb m d) := hide (by
                  have hF2 := unhide HF2
                  rw [← unhide HQ] at hF2
                  have h0 : ((R2.drop (q * 2)).map (Fv .f64))[0]? = some (Fv .f64 o0) := by rw [List.getElem?_map, List.getElem?_drop]; rw [eo0]; rfl
                  have h1 : ((R2.drop (q * 2)).map (Fv .f64))[1]? = some (Fv .f64 o1) := by rw [List.getElem?_map, List.getElem?_drop]; rw [eo1]; rfl
                  rw [hF2] at h0 h1
                  simp only [sfx, List.getElem?_cons_zero, List.getElem?_cons_succ, Option.some.injEq] at h0 h1
                  unfold tv
                  rw [← h0, ← h1])
                refine Go.Code.wp_mono (Only.to (fun _ _ h => h)) (sw21 (q := q) (l0 := l0) (l1 := l1) (y0 := o0) (y1 := o1) (d0 := dk0) (d1 := dk1) (oo0 := .float .f64 p0) (oo1 := .float .f64 p1) (Tm := tmul (lk L wb q) (swf L wb m d)) (Ta_ := tadd (drg L wb k) (lk L wb q)) (Ty_ := swf L wb m (d + 1))
                  (hide (by simp [go_sem])) (hide (by simp [go_sem])) (hide ((unhide HG7).cell eo0)) (hide ((unhide HG7).cell eo1)) (hide ((unhide HR7).cellAt (unhide HE0))) (hide ((unhide HR7).cellAt (unhide HE1))) (unhide HG7).lt (hide ((unhide HG7).cell ep0)) (hide ((unhide HG7).cell ep1)) (hide (unhide HG7).frozen)
                  (hide wq) (hide hqn) (cM (by rw [unhide HLV, unhide HOV])) (hide hkn) (cS (by rw [unhide HDK, unhide HLV])) (hide fun rem imm hm rea ima ha => unhide (cH (by rw [hm, ha, swf_succ, ← unhide HQ, show q - 1 = k by have := unhide HIQ; omega]))) (hide hkn) ?_)
                intro _ _ _ _ rey imy W8 W9 hW9 hb8 _ _ hy
                subst hW9
                have HG9 := hide ((((unhide HG7).bel hb8).set (k * 2) rey).set (k * 2 + 1) imy)
                have HW9 := hide (bs (v := .float .f64 imy) (o := k * 2 + 1) (bs (v := .float .f64 rey) (o := k * 2) (bc (ba (unhide HW6) _) hb8) (Nat.le_refl _)) (Nat.le_refl _))
                have HY := hide hy
                clear hb8 hy eo0 eo1 ep0 ep1
                go_wp2_with fail
                go_roundw
                case rel =>
                  have hk := unhide HK
                  refine ⟨d + 1, (R2.set (k * 2) rey).set (k * 2 + 1) imy, ?_, hd, by simp [unhide HR2], unhide HG9, ?_, unhide HW9⟩
                  · simp only [Value.int.injEq, true_and]
                    omega
                  · have hv := unhide HY
                    rw [show m - (d + 1) = k by omega]
                    have hF := unhide HF2
                    rw [show m - d = k + 1 by omega] at hF
                    exact back2 _ R2 k i rey imy _ _ (unhide HR2) hkn hF (congrArg Prod.fst hv) (congrArg Prod.snd hv)
                case measure => simp only [intOf]; omega
              · have dm : d = m := by omega
                subst dm
                have iI : (d : Int) - 1 - (d : Int) = -1 := by omega
                rw [iI]
                have iz : decide ((0 : Int) ≤ -1) = false := rfl
                clear iI
                go_wp2_with fail
                refine bodyPost_ret (v := .tuple #[.slice (some ⟨W3.heap.size, 0, none⟩) i i, .int .i64 0]) (by simp [results, Try.results13, go_sem]) rfl ⟨⟨_, by rw [unhide HC9], sw_some (unhide HC9) ⟨R2, ?_, ?_⟩⟩, bc (unhide HW3) (unhide HW)⟩
                · exact ⟨by rw [List.length_map]; exact unhide HR2, .inr ⟨_, i, (R2.map (Value.float .f64)).toArray, rfl, (unhide HW3).size, unhide HGR, Nat.le_refl _, by unfold maxLen; omega, by simp [unhide HR2], by rw [List.take_of_length_le (by simp [unhide HR2])]⟩⟩
                · have hF := unhide HF2
                  rw [Nat.sub_self, Nat.zero_mul, List.drop_zero, ← unhide HNM] at hF
                  rw [show i - 1 = d by have := unhide HNM; omega]
                  exact hF
end Go.Proofs.Ytgocgcnpgmamiaa
