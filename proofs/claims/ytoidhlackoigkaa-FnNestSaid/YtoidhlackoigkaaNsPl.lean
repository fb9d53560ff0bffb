/-
  The model's place for a plate: the lowest, there the leftmost.
-/
import Derived.Test.YtoidhlackoigkaaNsPk
namespace Go.Proofs.Ytoidhlackoigkaa
open Go.ChangeShapes Go.WideShapes Go.ChangeAt Go.RowKit
set_option linter.unusedVariables false
set_option linter.unusedSimpArgs false

theorem tops_bd {R : List Rc} (h : ∀ a ∈ R, Nr a) : ∀ y ∈ tops R, 0 ≤ y ∧ y ≤ 1001000 := by
  intro y hy
  rcases List.mem_cons.1 hy with rfl | hy
  · omega
  · obtain ⟨b, hb, rfl⟩ := List.mem_map.1 hy
    have := h b hb
    unfold Nr at this
    omega
theorem rights_bd {R : List Rc} (h : ∀ a ∈ R, Nr a) : ∀ y ∈ rights R, 0 ≤ y ∧ y ≤ 1001000 := by
  intro y hy
  rcases List.mem_cons.1 hy with rfl | hy
  · omega
  · obtain ⟨b, hb, rfl⟩ := List.mem_map.1 hy
    have := h b hb
    unfold Nr at this
    omega
theorem free_take {R : List Rc} {r a : Rc} {j : Nat} (hx : R[j]? = some a) (hf : free (R.take j) r = true) : free (R.take (j + 1)) r = !ovr r a := by
  unfold free at hf ⊢
  rw [List.take_add_one, hx, List.all_append, hf]
  simp
theorem free_take_no {R : List Rc} {r : Rc} {j : Nat} (hf : free (R.take j) r = false) : free R r = false := by
  cases hq : free R r with
  | false => rfl
  | true =>
    have : free (R.take j) r = true := free_iff.2 (fun b hb => free_iff.1 hq b (List.mem_of_mem_take hb))
    rw [hf] at this
    cases this
theorem tops_len (R : List Rc) : (tops R).length = R.length + 1 := by simp [tops]
theorem rights_len (R : List Rc) : (rights R).length = R.length + 1 := by simp [rights]
theorem seen_all {R : List Rc} {m : Nat} (h : (tops R).length = m) : ∀ a b, (a ∈ rights R ∧ b ∈ tops R) → seen R m 0 a b := by
  rintro a b ⟨h1, h2⟩
  obtain ⟨i, hi⟩ := List.getElem?_of_mem h2
  exact Or.inl ⟨i, by have := (List.getElem?_eq_some_iff.1 hi).1; omega, hi, h1⟩
theorem bst_some {W : Int} {R : List Rc} {w h : Int} {o : Option (Int × Int)} (hw : w ≤ W) (hb : Bst W R w h (fun x y => x ∈ rights R ∧ y ∈ tops R) o) : ∃ p, o = some p := by
  cases o with
  | some p => exact ⟨p, rfl⟩
  | none =>
    obtain ⟨y, hc⟩ := some_can (W := W) (R := R) (w := w) (h := h) hw
    exact absurd hc (hb 0 y ⟨hc.rt, hc.tp⟩)
theorem bst_nil {W : Int} {R : List Rc} {w h : Int} : Bst W R w h (seen R 0 0) none := by
  intro x y hs
  rcases hs with ⟨i, h1, _⟩ | ⟨_, k, h1, _⟩ <;> omega
theorem bst_can {W : Int} {R : List Rc} {w h : Int} {s : Int → Int → Prop} {p : Int × Int} (hb : Bst W R w h s (some p)) : p.2 ∈ tops R := hb.1.tp
theorem vb4 {W : World} {g t : Nat} {a b c d : Value} (h : vb W g t [a, b, c, d]) : W.cell? ⟨g, 0, none⟩ = some a ∧ W.cell? ⟨g, 1, none⟩ = some b ∧ W.cell? ⟨g, 2, none⟩ = some c ∧ W.cell? ⟨g, 3, none⟩ = some d := ⟨h.cell rfl, h.cell rfl, h.cell rfl, h.cell rfl⟩
set_option maxHeartbeats 8000000 in
set_option maxRecDepth 100000 in
theorem plM_any (Wd : Int) (u : Option Addr) (b po n c : Nat) (R : List Rc) (wi he : Int) (w : World) (hl : R.length = n) (hn : n ≤ 4096) (hu : Rcs w u b po R) (hs : ∀ a ∈ R, Nr a) (hW : 1 ≤ Wd ∧ Wd ≤ 1000) (hw : 1 ≤ wi ∧ wi ≤ Wd) (hh : 1 ≤ he ∧ he ≤ 1000) :
    Calls Try.prog 46 #[.int .i64 Wd, .slice u n c, .int .i64 wi, .int .i64 he] w fun e w' => (∃ x y, e = .returned (rcV ⟨x, y, wi, he⟩) ∧ Low Wd R wi he x y) ∧ Below w.heap.size w w' := by
  have HU := hide (fun W (hW : Below w.heap.size w W) => hu.bel hW)
  have HL := hide hl
  have HS := hide hs
  have n0 : (0 : Int) ≤ (n : Int) := Int.natCast_nonneg _
  obtain ⟨iP, hi1, hp0, hp1, hp2⟩ := info_parts int_info3
  have HP0 : Hid (PlB w (((w.alloc (.cells #[.int .i64 0, .int .i64 0, .int .i64 0, .int .i64 0] 84)).alloc (.cells #[.int .i64 0] 3)).alloc (.cells #[.int .i64 0] 3)) R 0 0 (.slice (some ⟨w.heap.size + 1, 0, none⟩) 1 1) (.slice (some ⟨w.heap.size + 1 + 1, 0, none⟩) 1 1)) := hide
    ⟨ba (ba (ba (Below.refl _ _) _) _) _, by simp, (vb_new w 84 [.int .i64 0, .int .i64 0, .int .i64 0, .int .i64 0] _ rfl).bel (ba (ba (Below.refl _ _) _) _),
      row_vb (L := [0]) ((vb_new _ 3 [.int .i64 0] _ (by simp)).bel (ba (Below.refl _ _) _)) rfl (by omega) (by omega),
      row_vb (L := [0]) (vb_new _ 3 [.int .i64 0] _ (by simp)) rfl (by omega) (by omega),
      fun q h1 h2 => by simp [Value.ownBlock] at h1 h2; omega⟩
  clear hu hl hs
  go_enter Try.func46, Try.ntmps46
  go_wp2_with fail
  go_loopw [9, 10, 11] (fun ry rx s W => ∃ i : Nat, s = .int .i64 (i : Int) ∧ i ≤ n ∧ PlB w W R i i ry rx) (fun _ _ s _ => n - (intOf s).toNat)
  case atStart => exact ⟨0, rfl, Nat.zero_le _, unhide HP0⟩
  case round =>
    clear HP0
    obtain ⟨i, rfl, hi, hp⟩ := hrel
    have HP := hide hp
    by_cases h : i < n
    · have i1 : (i : Int) < (n : Int) := by omega
      have i0 : (0 : Int) ≤ (i : Int) := Int.natCast_nonneg _
      have iz : decide ((i : Int) < (n : Int)) = true := decide_eq_true i1
      obtain ⟨a, hx⟩ := get_some (unhide HL) h
      have HX := hide hx
      obtain ⟨rfl, pw, k9⟩ := (unhide HU _ hp.bel).at hx
      have k0 := k9 0 _ rfl
      have k1 := k9 1 _ rfl
      have k2 := k9 2 _ rfl
      have k3 := k9 3 _ rfl
      rw [Nat.add_zero] at k0
      have na := unhide HS a (List.mem_of_getElem? hx)
      unfold Nr at na
      clear hx k9 pw hp
      have WY := hide (show IntKind.i64.wrap (a.y + a.h) = a.y + a.h from wrap_i (by omega) (by omega))
      have WX := hide (show IntKind.i64.wrap (a.x + a.w) = a.x + a.w from wrap_i (by omega) (by omega))
      have hsz := (unhide HP).sz
      clear na k0 k2
      go_wp2_with fail
      refine Go.Code.wp_mono (Only.to (fun _ _ h => h)) (pl6 (hide k1) (hide k3) (hide h) WY (hide (unhide HP).p) hsz (by omega) ?_)
      intro n12 ry' X1 X2 hX1 hrow hgr hnb
      have hp2 := ((unhide HP).on hX1).y (unhide HX) hrow hgr hnb
      have HP2 := hide hp2
      obtain ⟨_, pw, k9⟩ := (unhide HU _ hp2.bel).at (unhide HX)
      have k0 := k9 0 _ rfl
      have k2 := k9 2 _ rfl
      rw [Nat.add_zero] at k0
      have hsz2 := hp2.sz
      clear k1 k3 WY hX1 hrow hgr hnb hp2 k9 pw
      go_wp2_with fail
      refine Go.Code.wp_mono (Only.to (fun _ _ h => h)) (pl7 (hide k0) (hide k2) (hide h) WX (hide (unhide HP2).q) hsz2 (by omega) ?_)
      intro n13 rx' X3 X4 hX3 hrow hgr hnb
      have HP4 := hide (((unhide HP2).on hX3).x (unhide HX) hrow hgr hnb)
      clear k0 k2 WX hX3 hrow hgr hnb HP2 HP
      go_wp2_with fail
      go_roundw
      case rel => first | exact ⟨i + 1, by simp, by omega, unhide HP4⟩ | ((repeat apply Exists.intro); refine ⟨?_, rfl⟩; exact ⟨i + 1, by simp, by omega, unhide HP4⟩)
      case measure => first | (simp only [intOf]; omega) | (simp [intOf]; omega)
    · have iz : decide ((i : Int) < (n : Int)) = false := decide_eq_false (by omega)
      obtain rfl : n = i := by omega
      obtain ⟨gy, cy, rfl, hgy, hgyl, hcy, _⟩ := hp.p.sm (by
        intro e
        subst e
        rcases hp.p.2 with ⟨_, h0⟩ | ⟨_, _, _, h0, _⟩
        · exact absurd h0 (by omega)
        · cases h0)
      obtain ⟨gx, cx, rfl, hgx, hgxl, hcx, _⟩ := hp.q.sm (by
        intro e
        subst e
        rcases hp.q.2 with ⟨_, h0⟩ | ⟨_, _, _, h0, _⟩
        · exact absurd h0 (by omega)
        · cases h0)
      have HIY : Hid (IntsAt wr gy 0 (tops R)) := hide (by have h9 := hp.p.ints; rw [List.take_of_length_le (Nat.le_of_eq (unhide HL))] at h9; exact h9)
      have HIX : Hid (IntsAt wr gx 0 (rights R)) := hide (by have h9 := hp.q.ints; rw [List.take_of_length_le (Nat.le_of_eq (unhide HL))] at h9; exact h9)
      have HPS : Hid (PlS w (wr.alloc (.cells #[.int .i64 0, .int .i64 (-1), .int .i64 0, .int .i64 0] 84)) R wi he gy gx wr.heap.size none) := hide
        ⟨ba hp.bel _, by have := hp.sz; simp; omega, hp.re.bel (ba (Below.refl _ _) _), (unhide HIY).below (ba (Below.refl _ _) _) hgyl, (unhide HIX).below (ba (Below.refl _ _) _) hgxl, vb_new wr 84 [.int .i64 0, .int .i64 (-1), .int .i64 0, .int .i64 0] _ rfl, by simp; omega, by simp; omega, by omega, by omega, by have := hp.sz; omega⟩
      have HTL : Hid ((tops R).length = n + 1) := hide (by rw [tops_len, unhide HL])
      have HRL : Hid ((rights R).length = n + 1) := hide (by rw [rights_len, unhide HL])
      have m0 : (0 : Int) ≤ ((n + 1 : Nat) : Int) := Int.natCast_nonneg _
      generalize hmm : n + 1 = m at *
      have HM := hide hmm
      have hm1 : n ≤ m := by omega
      have hm2 : m ≤ 4097 := by omega
      clear hp hmm HIY HIX hi
      go_wp2_with fail
      generalize hgb : wr.heap.size = gb at *
      have HGB := hide hgb
      clear hgb
      go_loopw [13] (fun s W => ∃ (i : Nat) (o : Option (Int × Int)), s = .int .i64 (i : Int) ∧ i ≤ m ∧ PlS w W R wi he gy gx gb o ∧ Bst Wd R wi he (seen R i 0) o) (fun s _ => m - (intOf s).toNat)
      case atStart => exact ⟨0, none, rfl, Nat.zero_le _, unhide HPS, bst_nil⟩
      case round =>
        clear HPS
        obtain ⟨i, o, rfl, hi, hp, hbo⟩ := hrel
        have HP := hide hp
        have HBo := hide hbo
        by_cases h : i < m
        · have i1 : (i : Int) < (m : Int) := by omega
          have i0 : (0 : Int) ≤ (i : Int) := Int.natCast_nonneg _
          have iz : decide ((i : Int) < (m : Int)) = true := decide_eq_true i1
          obtain ⟨y, hy⟩ := get_some (unhide HTL) h
          have HY := hide hy
          have yb := tops_bd (unhide HS) y (List.mem_of_getElem? hy)
          clear hp hbo hy
          go_wp2_with fail
          go_loopw [14] (fun s W => ∃ (k : Nat) (o : Option (Int × Int)), s = .int .i64 (k : Int) ∧ k ≤ m ∧ PlS w W R wi he gy gx gb o ∧ Bst Wd R wi he (seen R i k) o) (fun s _ => m - (intOf s).toNat)
          case atStart => exact ⟨0, o, rfl, Nat.zero_le _, unhide HP, unhide HBo⟩
          case round =>
            clear HP HBo o
            obtain ⟨k, o, rfl, hk, hp, hbo⟩ := hrel
            have HP := hide hp
            have HBo := hide hbo
            by_cases hkm : k < m
            · have k1 : (k : Int) < (m : Int) := by omega
              have k0 : (0 : Int) ≤ (k : Int) := Int.natCast_nonneg _
              have kz : decide ((k : Int) < (m : Int)) = true := decide_eq_true k1
              obtain ⟨x, hx⟩ := get_some (unhide HRL) hkm
              have HX := hide hx
              have xb := rights_bd (unhide HS) x (List.mem_of_getElem? hx)
              have cy := hp.ys i y (unhide HY)
              have cx := hp.xs k x hx
              rw [Nat.zero_add] at cy cx
              have HSR : Hid (Sm ⟨x, y, wi, he⟩) := hide (by unfold Sm; simp only; omega)
              have wx : IntKind.i64.wrap (x + wi) = x + wi := wrap_i (by omega) (by omega)
              clear hp hbo hx
              go_wp2_with fail
              refine Go.Code.wp_mono (Only.to (fun _ _ h => h)) (pl15 (hide cx) (hide cy) (hide hkm) (hide h) ?_)
              intro gr W1 hbW hvW hgr
              have HPn1 := hide ((unhide HP).on hbW)
              have HVn := hide hvW
              obtain ⟨e0, e1, e2, e3⟩ := vb4 hvW
              clear cx cy hvW
              by_cases hin : Wd < x + wi
              · have t1 : decide (Wd < x + wi) = true := decide_eq_true hin
                have HPn := HPn1
                have HBn := hide (bst_skip (unhide HBo) (seen_step (unhide HY) (unhide HX)) (Or.inl (fun hc => by have h9 := hc.inn; omega)))
                clear hbW hgr
                go_wp2_with fail
                go_roundw
                case rel =>
                  first | exact ⟨k + 1, o, by simp, by omega, unhide HPn, unhide HBn⟩ | ((repeat apply Exists.intro); refine ⟨?_, rfl⟩; exact ⟨k + 1, o, by simp, by omega, unhide HPn, unhide HBn⟩)
                case measure => first | (simp only [intOf]; omega) | (simp [intOf]; omega)
              have t1 : decide (Wd < x + wi) = false := decide_eq_false hin
              have HIN : Hid (x + wi ≤ Wd) := hide (by omega)
              clear hbW hgr hin
              cases o with
              | none =>
                obtain ⟨b0, b1, b2, b3⟩ := vb4 (unhide HPn1).bs
                have t2 : decide ((0 : Int) ≤ -1) = false := rfl
                go_wp2_with fail
                go_loopw [16, 17] (fun f s W => ∃ j : Nat, s = .int .i64 (j : Int) ∧ j ≤ n ∧ f = .bool (free (R.take j) ⟨x, y, wi, he⟩) ∧ Below W1.heap.size W1 W) (fun _ s _ => n - (intOf s).toNat)
                case atStart => exact ⟨0, rfl, Nat.zero_le _, by simp [free], Below.refl _ _⟩
                case round =>
                  obtain ⟨j, rfl, hj, rfl, hbj⟩ := hrel
                  have HBJ := hide hbj
                  by_cases hjn : j < n
                  · have j1 : (j : Int) < (n : Int) := by omega
                    have j0 : (0 : Int) ≤ (j : Int) := Int.natCast_nonneg _
                    have jz : decide ((j : Int) < (n : Int)) = true := decide_eq_true j1
                    cases hf : free (R.take j) ⟨x, y, wi, he⟩ with
                    | true =>
                      obtain ⟨a, hx⟩ := get_some (unhide HL) hjn
                      obtain ⟨rfl, pw, k9⟩ := (unhide HU _ (bc (unhide HPn1).bel hbj)).at hx
                      have HO := hide (fun X => overM_any ⟨x, y, wi, he⟩ a X (unhide HSR) (unhide HS a (List.mem_of_getElem? hx)).sm)
                      unfold rcV at HO
                      have HFT := hide (free_take hx hf)
                      have HVJ := hide ((unhide HVn).bel hbj)
                      clear hf
                      go_wp2_with fail
                      refine Go.Code.wp_mono (Only.to (fun _ _ h => h)) (pl21 (xb := a.x) (yb := a.y) (wb := a.w) (hb := a.h) (ov := ovr ⟨x, y, wi, he⟩ a) (hide (vb4 (unhide HVJ)).1) (hide (vb4 (unhide HVJ)).2.1) (hide (vb4 (unhide HVJ)).2.2.1) (hide (vb4 (unhide HVJ)).2.2.2) (hide (by have := k9 0 _ rfl; rwa [Nat.add_zero] at this)) (hide (k9 1 _ rfl)) (hide (k9 2 _ rfl)) (hide (k9 3 _ rfl)) (hide hjn) (hide (fun Xw _ => unhide HO Xw)) ?_)
                      intro W3 hb3
                      have HBK := hide (bc (unhide HBJ) hb3)
                      clear hb3 k9 pw hx hbj
                      go_wp2_with fail
                      go_roundw
                      case rel => first | exact ⟨j + 1, by simp, by omega, by rw [unhide HFT], unhide HBK⟩ | ((repeat apply Exists.intro); refine ⟨?_, rfl⟩; exact ⟨j + 1, by simp, by omega, by rw [unhide HFT], unhide HBK⟩)
                      case measure => first | (simp only [intOf]; omega) | (simp [intOf]; omega)
                    | false =>
                      have HPn := hide ((unhide HPn1).on hbj)
                      have HBn := hide (bst_skip (unhide HBo) (seen_step (unhide HY) (unhide HX)) (Or.inl (fun hc => by have h9 := hc.fr; rw [free_take_no hf] at h9; cases h9)))
                      clear hf hbj
                      go_wp2_with fail
                      go_roundw
                      case rel =>
                        first | exact ⟨k + 1, none, by simp, by omega, unhide HPn, unhide HBn⟩ | ((repeat apply Exists.intro); refine ⟨?_, rfl⟩; exact ⟨k + 1, none, by simp, by omega, unhide HPn, unhide HBn⟩)
                      case measure => first | (simp only [intOf]; omega) | (simp [intOf]; omega)
                  · have jz : decide ((j : Int) < (n : Int)) = false := decide_eq_false (by omega)
                    obtain rfl : n = j := by omega
                    have hRt : R.take n = R := List.take_of_length_le (Nat.le_of_eq (unhide HL))
                    rw [hRt]
                    clear hRt
                    cases hf : free R ⟨x, y, wi, he⟩ with
                    | true =>
                      have HPn := hide (((unhide HPn1).on hbj).put x y)
                      have HBn := hide (bst_take (unhide HBo) (seen_step (unhide HY) (unhide HX)) ⟨List.mem_of_getElem? (unhide HY), List.mem_of_getElem? (unhide HX), unhide HIN, hf⟩ (fun p hp => by cases hp))
                      obtain ⟨e0, e1, e2, e3⟩ := vb4 ((unhide HVn).bel hbj)
                      have bsl := ((unhide HPn1).on hbj).bs.lt
                      have bsf := ((unhide HPn1).on hbj).bs.frozen
                      obtain ⟨b0, b1, b2, b3⟩ := vb4 ((unhide HPn1).on hbj).bs
                      clear hf hbj
                      go_wp2_with fail
                      go_roundw
                      case rel =>
                        first | exact ⟨k + 1, some (x, y), by simp, by omega, unhide HPn, unhide HBn⟩ | ((repeat apply Exists.intro); refine ⟨?_, rfl⟩; exact ⟨k + 1, some (x, y), by simp, by omega, unhide HPn, unhide HBn⟩)
                      case measure => first | (simp only [intOf]; omega) | (simp [intOf]; omega)
                    | false =>
                      have HPn := hide ((unhide HPn1).on hbj)
                      have HBn := hide (bst_skip (unhide HBo) (seen_step (unhide HY) (unhide HX)) (Or.inl (fun hc => by have h9 := hc.fr; rw [hf] at h9; cases h9)))
                      clear hf hbj
                      go_wp2_with fail
                      go_roundw
                      case rel =>
                        first | exact ⟨k + 1, none, by simp, by omega, unhide HPn, unhide HBn⟩ | ((repeat apply Exists.intro); refine ⟨?_, rfl⟩; exact ⟨k + 1, none, by simp, by omega, unhide HPn, unhide HBn⟩)
                      case measure => first | (simp only [intOf]; omega) | (simp [intOf]; omega)
              | some p =>
                obtain ⟨px, py⟩ := p
                obtain ⟨b0, b1, b2, b3⟩ := vb4 (unhide HPn1).bs
                have pyb := tops_bd (unhide HS) py (bst_can (unhide HBo))
                have t2 : decide ((0 : Int) ≤ py) = true := decide_eq_true pyb.1
                by_cases h3 : py < y
                · have t3 : decide (py < y) = true := decide_eq_true h3
                  have HPn := HPn1
                  have HBn := hide (bst_skip (unhide HBo) (seen_step (unhide HY) (unhide HX)) (Or.inr ⟨_, rfl, Or.inl h3⟩))
                  go_wp2_with fail
                  go_roundw
                  case rel =>
                    first | exact ⟨k + 1, some (px, py), by simp, by omega, unhide HPn, unhide HBn⟩ | ((repeat apply Exists.intro); refine ⟨?_, rfl⟩; exact ⟨k + 1, some (px, py), by simp, by omega, unhide HPn, unhide HBn⟩)
                  case measure => first | (simp only [intOf]; omega) | (simp [intOf]; omega)
                have t3 : decide (py < y) = false := decide_eq_false h3
                by_cases h4 : y = py
                · have t4 : (y == py) = true := by simp [h4]
                  by_cases h5 : px ≤ x
                  · have t5 : decide (px ≤ x) = true := decide_eq_true h5
                    have HPn := HPn1
                    have HBn := hide (bst_skip (unhide HBo) (seen_step (unhide HY) (unhide HX)) (Or.inr ⟨_, rfl, Or.inr ⟨h4.symm, h5⟩⟩))
                    clear h4
                    go_wp2_with fail
                    go_roundw
                    case rel =>
                      first | exact ⟨k + 1, some (px, py), by simp, by omega, unhide HPn, unhide HBn⟩ | ((repeat apply Exists.intro); refine ⟨?_, rfl⟩; exact ⟨k + 1, some (px, py), by simp, by omega, unhide HPn, unhide HBn⟩)
                    case measure => first | (simp only [intOf]; omega) | (simp [intOf]; omega)
                  have t5 : decide (px ≤ x) = false := decide_eq_false h5
                  have HBT : Hid (∀ p, some (px, py) = some p → y < p.2 ∨ (y = p.2 ∧ x < p.1)) := hide (fun p hp => by cases hp; exact Or.inr ⟨h4, by show x < px; omega⟩)
                  clear h4 h3 h5
                  go_wp2_with fail
                  go_loopw [16, 17] (fun f s W => ∃ j : Nat, s = .int .i64 (j : Int) ∧ j ≤ n ∧ f = .bool (free (R.take j) ⟨x, y, wi, he⟩) ∧ Below W1.heap.size W1 W) (fun _ s _ => n - (intOf s).toNat)
                  case atStart => exact ⟨0, rfl, Nat.zero_le _, by simp [free], Below.refl _ _⟩
                  case round =>
                    obtain ⟨j, rfl, hj, rfl, hbj⟩ := hrel
                    have HBJ := hide hbj
                    by_cases hjn : j < n
                    · have j1 : (j : Int) < (n : Int) := by omega
                      have j0 : (0 : Int) ≤ (j : Int) := Int.natCast_nonneg _
                      have jz : decide ((j : Int) < (n : Int)) = true := decide_eq_true j1
                      cases hf : free (R.take j) ⟨x, y, wi, he⟩ with
                      | true =>
                        obtain ⟨a, hx⟩ := get_some (unhide HL) hjn
                        obtain ⟨rfl, pw, k9⟩ := (unhide HU _ (bc (unhide HPn1).bel hbj)).at hx
                        have HO := hide (fun X => overM_any ⟨x, y, wi, he⟩ a X (unhide HSR) (unhide HS a (List.mem_of_getElem? hx)).sm)
                        unfold rcV at HO
                        have HFT := hide (free_take hx hf)
                        have HVJ := hide ((unhide HVn).bel hbj)
                        clear hf
                        go_wp2_with fail
                        refine Go.Code.wp_mono (Only.to (fun _ _ h => h)) (pl21 (xb := a.x) (yb := a.y) (wb := a.w) (hb := a.h) (ov := ovr ⟨x, y, wi, he⟩ a) (hide (vb4 (unhide HVJ)).1) (hide (vb4 (unhide HVJ)).2.1) (hide (vb4 (unhide HVJ)).2.2.1) (hide (vb4 (unhide HVJ)).2.2.2) (hide (by have := k9 0 _ rfl; rwa [Nat.add_zero] at this)) (hide (k9 1 _ rfl)) (hide (k9 2 _ rfl)) (hide (k9 3 _ rfl)) (hide hjn) (hide (fun Xw _ => unhide HO Xw)) ?_)
                        intro W3 hb3
                        have HBK := hide (bc (unhide HBJ) hb3)
                        clear hb3 k9 pw hx hbj
                        go_wp2_with fail
                        go_roundw
                        case rel => first | exact ⟨j + 1, by simp, by omega, by rw [unhide HFT], unhide HBK⟩ | ((repeat apply Exists.intro); refine ⟨?_, rfl⟩; exact ⟨j + 1, by simp, by omega, by rw [unhide HFT], unhide HBK⟩)
                        case measure => first | (simp only [intOf]; omega) | (simp [intOf]; omega)
                      | false =>
                        have HPn := hide ((unhide HPn1).on hbj)
                        have HBn := hide (bst_skip (unhide HBo) (seen_step (unhide HY) (unhide HX)) (Or.inl (fun hc => by have h9 := hc.fr; rw [free_take_no hf] at h9; cases h9)))
                        clear hf hbj
                        go_wp2_with fail
                        go_roundw
                        case rel =>
                          first | exact ⟨k + 1, some (px, py), by simp, by omega, unhide HPn, unhide HBn⟩ | ((repeat apply Exists.intro); refine ⟨?_, rfl⟩; exact ⟨k + 1, some (px, py), by simp, by omega, unhide HPn, unhide HBn⟩)
                        case measure => first | (simp only [intOf]; omega) | (simp [intOf]; omega)
                    · have jz : decide ((j : Int) < (n : Int)) = false := decide_eq_false (by omega)
                      obtain rfl : n = j := by omega
                      have hRt : R.take n = R := List.take_of_length_le (Nat.le_of_eq (unhide HL))
                      rw [hRt]
                      clear hRt
                      cases hf : free R ⟨x, y, wi, he⟩ with
                      | true =>
                        have HPn := hide (((unhide HPn1).on hbj).put x y)
                        have HBn := hide (bst_take (unhide HBo) (seen_step (unhide HY) (unhide HX)) ⟨List.mem_of_getElem? (unhide HY), List.mem_of_getElem? (unhide HX), unhide HIN, hf⟩ (unhide HBT))
                        obtain ⟨e0, e1, e2, e3⟩ := vb4 ((unhide HVn).bel hbj)
                        have bsl := ((unhide HPn1).on hbj).bs.lt
                        have bsf := ((unhide HPn1).on hbj).bs.frozen
                        obtain ⟨b0, b1, b2, b3⟩ := vb4 ((unhide HPn1).on hbj).bs
                        clear hf hbj
                        go_wp2_with fail
                        go_roundw
                        case rel =>
                          first | exact ⟨k + 1, some (x, y), by simp, by omega, unhide HPn, unhide HBn⟩ | ((repeat apply Exists.intro); refine ⟨?_, rfl⟩; exact ⟨k + 1, some (x, y), by simp, by omega, unhide HPn, unhide HBn⟩)
                        case measure => first | (simp only [intOf]; omega) | (simp [intOf]; omega)
                      | false =>
                        have HPn := hide ((unhide HPn1).on hbj)
                        have HBn := hide (bst_skip (unhide HBo) (seen_step (unhide HY) (unhide HX)) (Or.inl (fun hc => by have h9 := hc.fr; rw [hf] at h9; cases h9)))
                        clear hf hbj
                        go_wp2_with fail
                        go_roundw
                        case rel =>
                          first | exact ⟨k + 1, some (px, py), by simp, by omega, unhide HPn, unhide HBn⟩ | ((repeat apply Exists.intro); refine ⟨?_, rfl⟩; exact ⟨k + 1, some (px, py), by simp, by omega, unhide HPn, unhide HBn⟩)
                        case measure => first | (simp only [intOf]; omega) | (simp [intOf]; omega)
                · have t4 : (y == py) = false := by simp [h4]
                  have HBT : Hid (∀ p, some (px, py) = some p → y < p.2 ∨ (y = p.2 ∧ x < p.1)) := hide (fun p hp => by cases hp; exact Or.inl (by show y < py; omega))
                  clear h4 h3
                  go_wp2_with fail
                  go_loopw [16, 17] (fun f s W => ∃ j : Nat, s = .int .i64 (j : Int) ∧ j ≤ n ∧ f = .bool (free (R.take j) ⟨x, y, wi, he⟩) ∧ Below W1.heap.size W1 W) (fun _ s _ => n - (intOf s).toNat)
                  case atStart => exact ⟨0, rfl, Nat.zero_le _, by simp [free], Below.refl _ _⟩
                  case round =>
                    obtain ⟨j, rfl, hj, rfl, hbj⟩ := hrel
                    have HBJ := hide hbj
                    by_cases hjn : j < n
                    · have j1 : (j : Int) < (n : Int) := by omega
                      have j0 : (0 : Int) ≤ (j : Int) := Int.natCast_nonneg _
                      have jz : decide ((j : Int) < (n : Int)) = true := decide_eq_true j1
                      cases hf : free (R.take j) ⟨x, y, wi, he⟩ with
                      | true =>
                        obtain ⟨a, hx⟩ := get_some (unhide HL) hjn
                        obtain ⟨rfl, pw, k9⟩ := (unhide HU _ (bc (unhide HPn1).bel hbj)).at hx
                        have HO := hide (fun X => overM_any ⟨x, y, wi, he⟩ a X (unhide HSR) (unhide HS a (List.mem_of_getElem? hx)).sm)
                        unfold rcV at HO
                        have HFT := hide (free_take hx hf)
                        have HVJ := hide ((unhide HVn).bel hbj)
                        clear hf
                        go_wp2_with fail
                        refine Go.Code.wp_mono (Only.to (fun _ _ h => h)) (pl21 (xb := a.x) (yb := a.y) (wb := a.w) (hb := a.h) (ov := ovr ⟨x, y, wi, he⟩ a) (hide (vb4 (unhide HVJ)).1) (hide (vb4 (unhide HVJ)).2.1) (hide (vb4 (unhide HVJ)).2.2.1) (hide (vb4 (unhide HVJ)).2.2.2) (hide (by have := k9 0 _ rfl; rwa [Nat.add_zero] at this)) (hide (k9 1 _ rfl)) (hide (k9 2 _ rfl)) (hide (k9 3 _ rfl)) (hide hjn) (hide (fun Xw _ => unhide HO Xw)) ?_)
                        intro W3 hb3
                        have HBK := hide (bc (unhide HBJ) hb3)
                        clear hb3 k9 pw hx hbj
                        go_wp2_with fail
                        go_roundw
                        case rel => first | exact ⟨j + 1, by simp, by omega, by rw [unhide HFT], unhide HBK⟩ | ((repeat apply Exists.intro); refine ⟨?_, rfl⟩; exact ⟨j + 1, by simp, by omega, by rw [unhide HFT], unhide HBK⟩)
                        case measure => first | (simp only [intOf]; omega) | (simp [intOf]; omega)
                      | false =>
                        have HPn := hide ((unhide HPn1).on hbj)
                        have HBn := hide (bst_skip (unhide HBo) (seen_step (unhide HY) (unhide HX)) (Or.inl (fun hc => by have h9 := hc.fr; rw [free_take_no hf] at h9; cases h9)))
                        clear hf hbj
                        go_wp2_with fail
                        go_roundw
                        case rel =>
                          first | exact ⟨k + 1, some (px, py), by simp, by omega, unhide HPn, unhide HBn⟩ | ((repeat apply Exists.intro); refine ⟨?_, rfl⟩; exact ⟨k + 1, some (px, py), by simp, by omega, unhide HPn, unhide HBn⟩)
                        case measure => first | (simp only [intOf]; omega) | (simp [intOf]; omega)
                    · have jz : decide ((j : Int) < (n : Int)) = false := decide_eq_false (by omega)
                      obtain rfl : n = j := by omega
                      have hRt : R.take n = R := List.take_of_length_le (Nat.le_of_eq (unhide HL))
                      rw [hRt]
                      clear hRt
                      cases hf : free R ⟨x, y, wi, he⟩ with
                      | true =>
                        have HPn := hide (((unhide HPn1).on hbj).put x y)
                        have HBn := hide (bst_take (unhide HBo) (seen_step (unhide HY) (unhide HX)) ⟨List.mem_of_getElem? (unhide HY), List.mem_of_getElem? (unhide HX), unhide HIN, hf⟩ (unhide HBT))
                        obtain ⟨e0, e1, e2, e3⟩ := vb4 ((unhide HVn).bel hbj)
                        have bsl := ((unhide HPn1).on hbj).bs.lt
                        have bsf := ((unhide HPn1).on hbj).bs.frozen
                        obtain ⟨b0, b1, b2, b3⟩ := vb4 ((unhide HPn1).on hbj).bs
                        clear hf hbj
                        go_wp2_with fail
                        go_roundw
                        case rel =>
                          first | exact ⟨k + 1, some (x, y), by simp, by omega, unhide HPn, unhide HBn⟩ | ((repeat apply Exists.intro); refine ⟨?_, rfl⟩; exact ⟨k + 1, some (x, y), by simp, by omega, unhide HPn, unhide HBn⟩)
                        case measure => first | (simp only [intOf]; omega) | (simp [intOf]; omega)
                      | false =>
                        have HPn := hide ((unhide HPn1).on hbj)
                        have HBn := hide (bst_skip (unhide HBo) (seen_step (unhide HY) (unhide HX)) (Or.inl (fun hc => by have h9 := hc.fr; rw [hf] at h9; cases h9)))
                        clear hf hbj
                        go_wp2_with fail
                        go_roundw
                        case rel =>
                          first | exact ⟨k + 1, some (px, py), by simp, by omega, unhide HPn, unhide HBn⟩ | ((repeat apply Exists.intro); refine ⟨?_, rfl⟩; exact ⟨k + 1, some (px, py), by simp, by omega, unhide HPn, unhide HBn⟩)
                        case measure => first | (simp only [intOf]; omega) | (simp [intOf]; omega)
            · have kz : decide ((k : Int) < (m : Int)) = false := decide_eq_false (by omega)
              obtain rfl : m = k := by omega
              have HBn := hide (bst_sub hbo (by have h9 := @seen_next R i; rw [unhide HRL] at h9; exact h9))
              clear hp hbo
              go_wp2_with fail
              go_roundw
              case rel => first | exact ⟨i + 1, o, by simp, by omega, unhide HP, unhide HBn⟩ | ((repeat apply Exists.intro); refine ⟨?_, rfl⟩; exact ⟨i + 1, o, by simp, by omega, unhide HP, unhide HBn⟩)
              case measure => first | (simp only [intOf]; omega) | (simp [intOf]; omega)
        · have iz : decide ((i : Int) < (m : Int)) = false := decide_eq_false (by omega)
          obtain rfl : m = i := by omega
          have hb2 := bst_sub hbo (seen_all (unhide HTL))
          obtain ⟨⟨px, py⟩, rfl⟩ := bst_some hw.2 hb2
          have HLOW := hide (bst_low hb2)
          obtain ⟨b0, b1, b2, b3⟩ := vb4 hp.bs
          have bsl := hp.bs.lt
          obtain ⟨r0, r1, r2, r3⟩ := vb4 hp.re
          have rl := hp.re.lt
          have rf := hp.re.frozen
          have HBE := hide hp.bel
          clear hp hbo hb2
          go_wp2_with fail
          refine bodyPost_ret (v := rcV ⟨px, py, wi, he⟩) (by simp [results, Try.results46, go_sem, rcV, r0, r1, r2, r3, rl]) rfl ?_
          refine ⟨⟨px, py, rfl, unhide HLOW⟩, ?_⟩
          exact (((Below.setCell (unhide HBE) (Nat.le_refl _) _).setCell (Nat.le_refl _) _).setCell (Nat.le_refl _) _).setCell (Nat.le_refl _) _
end Go.Proofs.Ytoidhlackoigkaa
