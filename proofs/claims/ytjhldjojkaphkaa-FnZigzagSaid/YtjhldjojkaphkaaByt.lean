/-
  The program's floor.
-/
import Derived.Test.YtjhldjojkaphkaaHig
import Derived.Test.YtjhldjojkaphkaaFlMath
import Derived.BigRegion
namespace Go.Proofs.Ytjhldjojkaphkaa
open Go.ChangeShapes Go.WideShapes Go.ChangeAt Go.RowKit
set_option linter.unusedVariables false
set_option linter.unusedSimpArgs false

theorem Row.fd {w : World} {B q n cap : Nat} {T : List Int} (h : Row w B 3 1 (.slice (some ⟨q, 0, none⟩) n cap) n T) : Fd w q 0 n cap T := by
  have hl := h.len
  rcases h.2 with ⟨h1, _⟩ | ⟨g', cap', cur, hv, hB, hh, hn, hx, hs, ht⟩
  · cases h1
  · cases hv
    exact ⟨(Array.getElem?_eq_some_iff.1 hh).1, h.ints, by omega, hn, by unfold maxLen at hx; omega⟩
theorem vn_le {H r y : Nat} (hH : H ≤ 24) (hy : y < H) : vn H r y ≤ 24 := by unfold vn; omega
set_option maxHeartbeats 4000000 in
set_option maxRecDepth 100000 in
theorem bt48_any (W H r : Nat) (g po n c : Nat) (T : List Int) (w : World) (hW1 : 1 ≤ W) (hW : W ≤ 24) (hH1 : 1 ≤ H) (hH : H ≤ 24) (hr : r ≤ 3) (hn : n = W * H) (hF : Fd w g po n c T) :
    Calls Try.prog 37 #[fldV (W : Int) (H : Int) (some ⟨g, po, none⟩) n c, .int .i64 (r : Int), .func (.func 38) #[] #[]] w fun e w' => (∃ q cap, e = .returned (fldV (W : Int) (H : Int) (some ⟨q, 0, none⟩) n cap) ∧ Row w' w.heap.size 3 1 (.slice (some ⟨q, 0, none⟩) n cap) n (byL (fun x y => hi T (cols W H r x y)) W (W * H))) ∧ Below w.heap.size w w' := by
  have hnb : n ≤ 576 := by rw [hn]; exact Nat.mul_le_mul hW hH
  have hTl : T.length = W * H := by rw [hF.len, hn]
  have HC := hide (fun X (hX : Below w.heap.size w X) => cpP_any (W : Int) (H : Int) g po n c T X (hF.bel hX) hnb)
  have HR := hide (fun (v q cap : Nat) (X : World) (hv : v < H) (h1 : n ≤ cap) (h2 : cap ≤ 9223372036854775807) => rwP_any W H v q 0 n cap X hW1 hW hH hv hn h1 h2)
  have HU := hide (fun (x y : Nat) (X : World) (hx : x < W) (hy : y < H) => unP_any W H r x y g po n c X hW hH hr hx hy hn hF.cap hF.top)
  have HG := hide (fun (x y B : Nat) (v : Value) (X : World) (hx : x < W) (hy : y < H) (hX : Below w.heap.size w X) (hp : Pcs X B v g po (pieces W H r x y)) (hv : v ≠ .slice none 0 0) => hgP_any v B g po (pieces W H r x y) T X hp hv (hF.bel hX).ints (by rw [hTl]; exact pieces_ok hr hx hy) (by rw [hTl, ← hn]; exact hnb) (by rw [pieces_len]; exact vn_le hH hy))
  have HTL := hide hTl
  have HN := hide hn
  have HB := hide (ba (ba (Below.refl w.heap.size w) (.cells #[.int .i64 (W : Int), .int .i64 (H : Int), .slice (some ⟨g, po, none⟩) n c] 25)) (.cells #[.int .i64 0, .int .i64 0, .slice none 0 0] 25))
  have HV1 := hide (vb_new1 w 25 [.int .i64 (W : Int), .int .i64 (H : Int), .slice (some ⟨g, po, none⟩) n c] (.cells #[.int .i64 0, .int .i64 0, .slice none 0 0] 25))
  have HV2 := hide (vb_new2 w 25 [.int .i64 0, .int .i64 0, .slice none 0 0] (.cells #[.int .i64 (W : Int), .int .i64 (H : Int), .slice (some ⟨g, po, none⟩) n c] 25))
  unfold fldV at *
  clear hF hn hTl
  go_enter Try.func37, Try.ntmps37
  go_wp2_with fail
  refine (unhide HC _ (unhide HB)).mono ?_
  rintro e W1 ⟨⟨q, cap, rfl, hro⟩, hb1⟩
  have hA : Below W1.heap.size W1 (W1.alloc (.cells #[.int .i64 (W : Int), .int .i64 (H : Int), .slice (some ⟨q, 0, none⟩) n cap] 25)) := ba (Below.refl _ _) _
  have HB2 := hide (bc (bc (unhide HB) hb1) hA)
  have v1 := ((unhide HV1).bel hb1).bel hA
  have k0 := v1.cell (m := 0) rfl
  have k1 := v1.cell (m := 1) rfl
  have HVR := hide v1
  have HVO := hide (((unhide HV2).bel hb1).bel hA)
  have HVM := hide (vb_new W1 25 [.int .i64 (W : Int), .int .i64 (H : Int), .slice (some ⟨q, 0, none⟩) n cap] W1.heap.size rfl)
  have HRW : Hid (Row (W1.alloc (.cells #[.int .i64 (W : Int), .int .i64 (H : Int), .slice (some ⟨q, 0, none⟩) n cap] 25)) (w.heap.size + 2) 3 1 (.slice (some ⟨q, 0, none⟩) n cap) n (byP (fun x y => hi T (cols W H r x y)) W T 0)) := hide (by rw [byP_zero]; exact (hro.below hA).mono (by simp))
  have hfd := hro.fd
  have hcp1 := hfd.cap
  have hcp2 := hfd.top
  have HQM : Hid (q < W1.heap.size) := hide hfd.lt
  have HMR : Hid (w.heap.size + 2 ≤ W1.heap.size) := hide (by have := hb1.size; simpa using this)
  clear hro hb1 hA v1 hfd
  go_wp2_with fail
  generalize W1.alloc (.cells #[.int .i64 (W : Int), .int .i64 (H : Int), .slice (some ⟨q, 0, none⟩) n cap] 25) = W2 at *
  generalize W1.heap.size = M at *
  clear k0 k1
  go_loopw [15] (fun z X => ∃ y : Nat, z = .int .i64 (y : Int) ∧ y ≤ H ∧ Row X (w.heap.size + 2) 3 1 (.slice (some ⟨q, 0, none⟩) n cap) n (byP (fun x y => hi T (cols W H r x y)) W T (y * W)) ∧ vb X w.heap.size 25 [.int .i64 (W : Int), .int .i64 (H : Int), .slice (some ⟨g, po, none⟩) n c] ∧ vb X (w.heap.size + 1) 25 [.int .i64 0, .int .i64 0, .slice none 0 0] ∧ vb X M 25 [.int .i64 (W : Int), .int .i64 (H : Int), .slice (some ⟨q, 0, none⟩) n cap] ∧ Below w.heap.size w X) (fun z _ => H - (intOf z).toNat)
  case atStart => exact ⟨0, rfl, Nat.zero_le _, by rw [Nat.zero_mul]; exact unhide HRW, unhide HVR, unhide HVO, unhide HVM, unhide HB2⟩
  case round =>
    obtain ⟨y, rfl, hy, hro, hvr, hvo, hvm, hw⟩ := hrel
    have HRO := hide hro
    have HVRy := hide hvr
    have HVOy := hide hvo
    have HVMy := hide hvm
    have HWy := hide hw
    have k0 := hvm.cell (m := 0) rfl
    have k1 := hvm.cell (m := 1) rfl
    have k2 := hvm.cell (m := 2) rfl
    have o0 := hvo.cell (m := 0) rfl
    have o1 := hvo.cell (m := 1) rfl
    have o2 := hvo.cell (m := 2) rfl
    have of := hvo.frozen
    clear hro hvr hvo hvm hw
    by_cases h : y < H
    · have i1 : (y : Int) < (H : Int) := by omega
      have i0 : (0 : Int) ≤ (y : Int) := Int.natCast_nonneg _
      have iz : decide ((y : Int) < (H : Int)) = true := decide_eq_true i1
      have HRy := hide (fun X => (unhide HR) y q cap X h hcp1 hcp2)
      simp only [Nat.zero_add] at HRy
      have hyW : y * W ≤ 24 * 24 := Nat.mul_le_mul (by omega) hW
      have hyn : y * W + W ≤ n := by
        have : (y + 1) * W ≤ H * W := Nat.mul_le_mul_right W h
        rw [unhide HN, Nat.mul_comm W H]
        rw [Nat.add_mul, Nat.one_mul] at this
        exact this
      have HYX : Hid (∀ x, x < W → (y * W + x) % W = x ∧ (y * W + x) / W = y) := hide (fun x hx => yx hx y)
      have HY1 : Hid ((y + 1) * W = y * W + W) := hide (by rw [Nat.add_mul, Nat.one_mul])
      clear o0 o1 o2 of
      go_wp2_with fail
      refine (unhide HRy _).mono ?_
      rintro e W3 ⟨rfl, hb3⟩
      have HRO3 := hide ((unhide HRO).below hb3)
      have HVR3 := hide ((unhide HVRy).bel hb3)
      have HVO3 := hide ((unhide HVOy).bel hb3)
      have HVM3 := hide ((unhide HVMy).bel hb3)
      have HW3 := hide (bc (unhide HWy) hb3)
      clear hb3 k0 k1 k2
      obtain ⟨yW, hyWe⟩ : ∃ yW, y * W = yW := ⟨_, rfl⟩
      rw [hyWe] at HRO3 HY1 hyW hyn HYX ⊢
      have HYWE := hide hyWe
      clear hyWe HRy
      go_wp2_with fail
      generalize hWo : wr = Wo at *
      clear hWo
      go_loopw [23] (fun z X => ∃ x : Nat, z = .int .i64 (x : Int) ∧ x ≤ W ∧ Row X (w.heap.size + 2) 3 1 (.slice (some ⟨q, 0, none⟩) n cap) n (byP (fun x y => hi T (cols W H r x y)) W T (yW + x)) ∧ vb X w.heap.size 25 [.int .i64 (W : Int), .int .i64 (H : Int), .slice (some ⟨g, po, none⟩) n c] ∧ vb X (w.heap.size + 1) 25 [.int .i64 0, .int .i64 0, .slice none 0 0] ∧ vb X M 25 [.int .i64 (W : Int), .int .i64 (H : Int), .slice (some ⟨q, 0, none⟩) n cap] ∧ Below w.heap.size w X) (fun z _ => W - (intOf z).toNat)
      case atStart => exact ⟨0, rfl, Nat.zero_le _, unhide HRO3, unhide HVR3, unhide HVO3, unhide HVM3, unhide HW3⟩
      case round =>
        obtain ⟨x, rfl, hx, hro, hvr, hvo, hvm, hw⟩ := hrel
        have HROx := hide hro
        have HVRx := hide hvr
        have HVOx := hide hvo
        have HVMx := hide hvm
        have HWx := hide hw
        have k0 := hvr.cell (m := 0) rfl
        have k1 := hvr.cell (m := 1) rfl
        have k2 := hvr.cell (m := 2) rfl
        clear hro hvr hvo hvm hw
        by_cases h2 : x < W
        · have j1 : (x : Int) < (W : Int) := by omega
          have j0 : (0 : Int) ≤ (x : Int) := Int.natCast_nonneg _
          have jz : decide ((x : Int) < (W : Int)) = true := decide_eq_true j1
          have HUx := hide (fun X => (unhide HU) x y X h2 h)
          have HGx := hide (fun B v X hX hp hv => (unhide HG) x y B v X h2 h hX hp hv)
          rw [show flatP (pieces W H r x y) = cols W H r x y from rfl] at HGx
          have HST : Hid ((byP (fun x y => hi T (cols W H r x y)) W T (yW + x)).set (yW + x) (hi T (cols W H r x y)) = byP (fun x y => hi T (cols W H r x y)) W T (yW + (x + 1))) := hide (by
            have hlt : yW + x < T.length := by rw [unhide HTL, ← unhide HN]; omega
            have := byP_set (fun x y => hi T (cols W H r x y)) W T hlt
            obtain ⟨e1, e2⟩ := (unhide HYX) x h2
            rw [e1, e2] at this
            exact this)
          generalize hi T (cols W H r x y) = vv at *
          go_wp2_with fail
          refine (unhide HUx _).mono ?_
          rintro e W4 ⟨⟨pv, rfl, hpv, hps⟩, hb4⟩
          have HPS := hide hps
          have HPV := hide hpv
          have HRO4 := hide ((unhide HROx).below hb4)
          have HVR4 := hide ((unhide HVRx).bel hb4)
          have HVO4 := hide ((unhide HVOx).bel hb4)
          have HVM4 := hide ((unhide HVMx).bel hb4)
          have HW4 := hide (bc (unhide HWx) hb4)
          clear hb4 hps hpv k0 k1 k2
          go_wp2_with fail
          refine (unhide HGx _ _ _ (unhide HW4) (unhide HPS) (unhide HPV)).mono ?_
          rintro e W5 ⟨rfl, hs⟩
          have hb5 : Below W4.heap.size W4 W5 := hs.bel
          have HRO5 := hide ((unhide HRO4).below hb5)
          have HVR5 := hide ((unhide HVR4).bel hb5)
          have HVO5 := hide ((unhide HVO4).bel hb5)
          have HVM5 := hide ((unhide HVM4).bel hb5)
          have HW5 := hide (bc (unhide HW4) hb5)
          obtain ⟨old, hold⟩ : ∃ old, (byP (fun x y => hi T (cols W H r x y)) W T (yW + x))[yW + x]? = some old := ⟨_, List.getElem?_eq_getElem (by rw [byP_len, unhide HTL, ← unhide HN]; omega)⟩
          have ck := (unhide HRO5).cellAt hold
          have fz := (unhide HRO5).frz
          have hge := (unhide HRO5).ge
          have hqM : q ≠ M := Nat.ne_of_lt (unhide HQM)
          clear hs hb5 hold
          go_wp2_with fail
          go_roundw
          case rel =>
            refine ⟨x + 1, by simp, h2, ?_, (unhide HVR5).ne (by omega), (unhide HVO5).ne (by omega), (unhide HVM5).ne (Ne.symm hqM), Below.setCell (unhide HW5) (by show w.heap.size ≤ q; omega) _⟩
            rw [← unhide HST]
            exact (unhide HRO5).set (yW + x) (by omega) vv
          case measure => simp only [intOf]; omega
        · have jz : decide ((x : Int) < (W : Int)) = false := decide_eq_false (by omega)
          obtain rfl : x = W := by omega
          go_wp2_with fail
          go_roundw
          case rel => exact ⟨y + 1, by simp, h, by rw [unhide HY1]; exact unhide HROx, unhide HVRx, unhide HVOx, unhide HVMx, unhide HWx⟩
          case measure => simp only [intOf]; omega
    · have iz : decide ((y : Int) < (H : Int)) = false := decide_eq_false (by omega)
      have ey : y = H := by omega
      rw [ey] at HRO
      have HE : Hid (byP (fun x y => hi T (cols W H r x y)) W T (H * W) = byL (fun x y => hi T (cols W H r x y)) W (W * H)) := hide (by rw [byP_full _ _ _ (by rw [unhide HTL, Nat.mul_comm]; exact Nat.le_refl _), unhide HTL])
      have hge := (unhide HRO).ge
      go_wp2_with fail
      refine bodyPost_ret (v := .agg #[.int .i64 (W : Int), .int .i64 (H : Int), .slice (some ⟨q, 0, none⟩) n cap]) (by simp [results, Try.results37, go_sem, k0, k1, k2, o0, o1, o2]) rfl ?_
      refine ⟨⟨q, cap, rfl, ?_⟩, Below.setCell (Below.setCell (Below.setCell (unhide HWy) (Nat.le_add_right _ _) _) (Nat.le_add_right _ _) _) (Nat.le_add_right _ _) _⟩
      have h1 := unhide HRO
      rw [unhide HE] at h1
      refine (h1.kept' (fun b hb => ?_)).mono (Nat.le_add_right _ 2)
      simp only [Value.ownBlock, Option.some.injEq] at hb
      subst hb
      have hne : q ≠ w.heap.size + 1 := by omega
      exact (Below.heap_setCell _ _ _ _ hne).trans ((Below.heap_setCell _ _ _ _ hne).trans (Below.heap_setCell _ _ _ _ hne))
set_option maxHeartbeats 4000000 in
set_option maxRecDepth 100000 in
theorem bt49_any (W H r : Nat) (g po n c : Nat) (T : List Int) (w : World) (hW1 : 1 ≤ W) (hW : W ≤ 24) (hH1 : 1 ≤ H) (hH : H ≤ 24) (hr : r ≤ 3) (hn : n = W * H) (hF : Fd w g po n c T) :
    Calls Try.prog 37 #[fldV (W : Int) (H : Int) (some ⟨g, po, none⟩) n c, .int .i64 (r : Int), .func (.func 49) #[] #[]] w fun e w' => (∃ q cap, e = .returned (fldV (W : Int) (H : Int) (some ⟨q, 0, none⟩) n cap) ∧ Row w' w.heap.size 3 1 (.slice (some ⟨q, 0, none⟩) n cap) n (byL (fun x y => lo T (cols W H r x y)) W (W * H))) ∧ Below w.heap.size w w' := by
  have hnb : n ≤ 576 := by rw [hn]; exact Nat.mul_le_mul hW hH
  have hTl : T.length = W * H := by rw [hF.len, hn]
  have HC := hide (fun X (hX : Below w.heap.size w X) => cpP_any (W : Int) (H : Int) g po n c T X (hF.bel hX) hnb)
  have HR := hide (fun (v q cap : Nat) (X : World) (hv : v < H) (h1 : n ≤ cap) (h2 : cap ≤ 9223372036854775807) => rwP_any W H v q 0 n cap X hW1 hW hH hv hn h1 h2)
  have HU := hide (fun (x y : Nat) (X : World) (hx : x < W) (hy : y < H) => unP_any W H r x y g po n c X hW hH hr hx hy hn hF.cap hF.top)
  have HG := hide (fun (x y B : Nat) (v : Value) (X : World) (hx : x < W) (hy : y < H) (hX : Below w.heap.size w X) (hp : Pcs X B v g po (pieces W H r x y)) (hv : v ≠ .slice none 0 0) => lgP_any v B g po (pieces W H r x y) T X hp hv (hF.bel hX).ints (by rw [hTl]; exact pieces_ok hr hx hy) (by rw [hTl, ← hn]; exact hnb) (by rw [pieces_len]; exact vn_le hH hy))
  have HTL := hide hTl
  have HN := hide hn
  have HB := hide (ba (ba (Below.refl w.heap.size w) (.cells #[.int .i64 (W : Int), .int .i64 (H : Int), .slice (some ⟨g, po, none⟩) n c] 25)) (.cells #[.int .i64 0, .int .i64 0, .slice none 0 0] 25))
  have HV1 := hide (vb_new1 w 25 [.int .i64 (W : Int), .int .i64 (H : Int), .slice (some ⟨g, po, none⟩) n c] (.cells #[.int .i64 0, .int .i64 0, .slice none 0 0] 25))
  have HV2 := hide (vb_new2 w 25 [.int .i64 0, .int .i64 0, .slice none 0 0] (.cells #[.int .i64 (W : Int), .int .i64 (H : Int), .slice (some ⟨g, po, none⟩) n c] 25))
  unfold fldV at *
  clear hF hn hTl
  go_enter Try.func37, Try.ntmps37
  go_wp2_with fail
  refine (unhide HC _ (unhide HB)).mono ?_
  rintro e W1 ⟨⟨q, cap, rfl, hro⟩, hb1⟩
  have hA : Below W1.heap.size W1 (W1.alloc (.cells #[.int .i64 (W : Int), .int .i64 (H : Int), .slice (some ⟨q, 0, none⟩) n cap] 25)) := ba (Below.refl _ _) _
  have HB2 := hide (bc (bc (unhide HB) hb1) hA)
  have v1 := ((unhide HV1).bel hb1).bel hA
  have k0 := v1.cell (m := 0) rfl
  have k1 := v1.cell (m := 1) rfl
  have HVR := hide v1
  have HVO := hide (((unhide HV2).bel hb1).bel hA)
  have HVM := hide (vb_new W1 25 [.int .i64 (W : Int), .int .i64 (H : Int), .slice (some ⟨q, 0, none⟩) n cap] W1.heap.size rfl)
  have HRW : Hid (Row (W1.alloc (.cells #[.int .i64 (W : Int), .int .i64 (H : Int), .slice (some ⟨q, 0, none⟩) n cap] 25)) (w.heap.size + 2) 3 1 (.slice (some ⟨q, 0, none⟩) n cap) n (byP (fun x y => lo T (cols W H r x y)) W T 0)) := hide (by rw [byP_zero]; exact (hro.below hA).mono (by simp))
  have hfd := hro.fd
  have hcp1 := hfd.cap
  have hcp2 := hfd.top
  have HQM : Hid (q < W1.heap.size) := hide hfd.lt
  have HMR : Hid (w.heap.size + 2 ≤ W1.heap.size) := hide (by have := hb1.size; simpa using this)
  clear hro hb1 hA v1 hfd
  go_wp2_with fail
  generalize W1.alloc (.cells #[.int .i64 (W : Int), .int .i64 (H : Int), .slice (some ⟨q, 0, none⟩) n cap] 25) = W2 at *
  generalize W1.heap.size = M at *
  clear k0 k1
  go_loopw [15] (fun z X => ∃ y : Nat, z = .int .i64 (y : Int) ∧ y ≤ H ∧ Row X (w.heap.size + 2) 3 1 (.slice (some ⟨q, 0, none⟩) n cap) n (byP (fun x y => lo T (cols W H r x y)) W T (y * W)) ∧ vb X w.heap.size 25 [.int .i64 (W : Int), .int .i64 (H : Int), .slice (some ⟨g, po, none⟩) n c] ∧ vb X (w.heap.size + 1) 25 [.int .i64 0, .int .i64 0, .slice none 0 0] ∧ vb X M 25 [.int .i64 (W : Int), .int .i64 (H : Int), .slice (some ⟨q, 0, none⟩) n cap] ∧ Below w.heap.size w X) (fun z _ => H - (intOf z).toNat)
  case atStart => exact ⟨0, rfl, Nat.zero_le _, by rw [Nat.zero_mul]; exact unhide HRW, unhide HVR, unhide HVO, unhide HVM, unhide HB2⟩
  case round =>
    obtain ⟨y, rfl, hy, hro, hvr, hvo, hvm, hw⟩ := hrel
    have HRO := hide hro
    have HVRy := hide hvr
    have HVOy := hide hvo
    have HVMy := hide hvm
    have HWy := hide hw
    have k0 := hvm.cell (m := 0) rfl
    have k1 := hvm.cell (m := 1) rfl
    have k2 := hvm.cell (m := 2) rfl
    have o0 := hvo.cell (m := 0) rfl
    have o1 := hvo.cell (m := 1) rfl
    have o2 := hvo.cell (m := 2) rfl
    have of := hvo.frozen
    clear hro hvr hvo hvm hw
    by_cases h : y < H
    · have i1 : (y : Int) < (H : Int) := by omega
      have i0 : (0 : Int) ≤ (y : Int) := Int.natCast_nonneg _
      have iz : decide ((y : Int) < (H : Int)) = true := decide_eq_true i1
      have HRy := hide (fun X => (unhide HR) y q cap X h hcp1 hcp2)
      simp only [Nat.zero_add] at HRy
      have hyW : y * W ≤ 24 * 24 := Nat.mul_le_mul (by omega) hW
      have hyn : y * W + W ≤ n := by
        have : (y + 1) * W ≤ H * W := Nat.mul_le_mul_right W h
        rw [unhide HN, Nat.mul_comm W H]
        rw [Nat.add_mul, Nat.one_mul] at this
        exact this
      have HYX : Hid (∀ x, x < W → (y * W + x) % W = x ∧ (y * W + x) / W = y) := hide (fun x hx => yx hx y)
      have HY1 : Hid ((y + 1) * W = y * W + W) := hide (by rw [Nat.add_mul, Nat.one_mul])
      clear o0 o1 o2 of
      go_wp2_with fail
      refine (unhide HRy _).mono ?_
      rintro e W3 ⟨rfl, hb3⟩
      have HRO3 := hide ((unhide HRO).below hb3)
      have HVR3 := hide ((unhide HVRy).bel hb3)
      have HVO3 := hide ((unhide HVOy).bel hb3)
      have HVM3 := hide ((unhide HVMy).bel hb3)
      have HW3 := hide (bc (unhide HWy) hb3)
      clear hb3 k0 k1 k2
      obtain ⟨yW, hyWe⟩ : ∃ yW, y * W = yW := ⟨_, rfl⟩
      rw [hyWe] at HRO3 HY1 hyW hyn HYX ⊢
      have HYWE := hide hyWe
      clear hyWe HRy
      go_wp2_with fail
      generalize hWo : wr = Wo at *
      clear hWo
      go_loopw [23] (fun z X => ∃ x : Nat, z = .int .i64 (x : Int) ∧ x ≤ W ∧ Row X (w.heap.size + 2) 3 1 (.slice (some ⟨q, 0, none⟩) n cap) n (byP (fun x y => lo T (cols W H r x y)) W T (yW + x)) ∧ vb X w.heap.size 25 [.int .i64 (W : Int), .int .i64 (H : Int), .slice (some ⟨g, po, none⟩) n c] ∧ vb X (w.heap.size + 1) 25 [.int .i64 0, .int .i64 0, .slice none 0 0] ∧ vb X M 25 [.int .i64 (W : Int), .int .i64 (H : Int), .slice (some ⟨q, 0, none⟩) n cap] ∧ Below w.heap.size w X) (fun z _ => W - (intOf z).toNat)
      case atStart => exact ⟨0, rfl, Nat.zero_le _, unhide HRO3, unhide HVR3, unhide HVO3, unhide HVM3, unhide HW3⟩
      case round =>
        obtain ⟨x, rfl, hx, hro, hvr, hvo, hvm, hw⟩ := hrel
        have HROx := hide hro
        have HVRx := hide hvr
        have HVOx := hide hvo
        have HVMx := hide hvm
        have HWx := hide hw
        have k0 := hvr.cell (m := 0) rfl
        have k1 := hvr.cell (m := 1) rfl
        have k2 := hvr.cell (m := 2) rfl
        clear hro hvr hvo hvm hw
        by_cases h2 : x < W
        · have j1 : (x : Int) < (W : Int) := by omega
          have j0 : (0 : Int) ≤ (x : Int) := Int.natCast_nonneg _
          have jz : decide ((x : Int) < (W : Int)) = true := decide_eq_true j1
          have HUx := hide (fun X => (unhide HU) x y X h2 h)
          have HGx := hide (fun B v X hX hp hv => (unhide HG) x y B v X h2 h hX hp hv)
          rw [show flatP (pieces W H r x y) = cols W H r x y from rfl] at HGx
          have HST : Hid ((byP (fun x y => lo T (cols W H r x y)) W T (yW + x)).set (yW + x) (lo T (cols W H r x y)) = byP (fun x y => lo T (cols W H r x y)) W T (yW + (x + 1))) := hide (by
            have hlt : yW + x < T.length := by rw [unhide HTL, ← unhide HN]; omega
            have := byP_set (fun x y => lo T (cols W H r x y)) W T hlt
            obtain ⟨e1, e2⟩ := (unhide HYX) x h2
            rw [e1, e2] at this
            exact this)
          generalize lo T (cols W H r x y) = vv at *
          go_wp2_with fail
          refine (unhide HUx _).mono ?_
          rintro e W4 ⟨⟨pv, rfl, hpv, hps⟩, hb4⟩
          have HPS := hide hps
          have HPV := hide hpv
          have HRO4 := hide ((unhide HROx).below hb4)
          have HVR4 := hide ((unhide HVRx).bel hb4)
          have HVO4 := hide ((unhide HVOx).bel hb4)
          have HVM4 := hide ((unhide HVMx).bel hb4)
          have HW4 := hide (bc (unhide HWx) hb4)
          clear hb4 hps hpv k0 k1 k2
          go_wp2_with fail
          refine (unhide HGx _ _ _ (unhide HW4) (unhide HPS) (unhide HPV)).mono ?_
          rintro e W5 ⟨rfl, hs⟩
          have hb5 : Below W4.heap.size W4 W5 := hs.bel
          have HRO5 := hide ((unhide HRO4).below hb5)
          have HVR5 := hide ((unhide HVR4).bel hb5)
          have HVO5 := hide ((unhide HVO4).bel hb5)
          have HVM5 := hide ((unhide HVM4).bel hb5)
          have HW5 := hide (bc (unhide HW4) hb5)
          obtain ⟨old, hold⟩ : ∃ old, (byP (fun x y => lo T (cols W H r x y)) W T (yW + x))[yW + x]? = some old := ⟨_, List.getElem?_eq_getElem (by rw [byP_len, unhide HTL, ← unhide HN]; omega)⟩
          have ck := (unhide HRO5).cellAt hold
          have fz := (unhide HRO5).frz
          have hge := (unhide HRO5).ge
          have hqM : q ≠ M := Nat.ne_of_lt (unhide HQM)
          clear hs hb5 hold
          go_wp2_with fail
          go_roundw
          case rel =>
            refine ⟨x + 1, by simp, h2, ?_, (unhide HVR5).ne (by omega), (unhide HVO5).ne (by omega), (unhide HVM5).ne (Ne.symm hqM), Below.setCell (unhide HW5) (by show w.heap.size ≤ q; omega) _⟩
            rw [← unhide HST]
            exact (unhide HRO5).set (yW + x) (by omega) vv
          case measure => simp only [intOf]; omega
        · have jz : decide ((x : Int) < (W : Int)) = false := decide_eq_false (by omega)
          obtain rfl : x = W := by omega
          go_wp2_with fail
          go_roundw
          case rel => exact ⟨y + 1, by simp, h, by rw [unhide HY1]; exact unhide HROx, unhide HVRx, unhide HVOx, unhide HVMx, unhide HWx⟩
          case measure => simp only [intOf]; omega
    · have iz : decide ((y : Int) < (H : Int)) = false := decide_eq_false (by omega)
      have ey : y = H := by omega
      rw [ey] at HRO
      have HE : Hid (byP (fun x y => lo T (cols W H r x y)) W T (H * W) = byL (fun x y => lo T (cols W H r x y)) W (W * H)) := hide (by rw [byP_full _ _ _ (by rw [unhide HTL, Nat.mul_comm]; exact Nat.le_refl _), unhide HTL])
      have hge := (unhide HRO).ge
      go_wp2_with fail
      refine bodyPost_ret (v := .agg #[.int .i64 (W : Int), .int .i64 (H : Int), .slice (some ⟨q, 0, none⟩) n cap]) (by simp [results, Try.results37, go_sem, k0, k1, k2, o0, o1, o2]) rfl ?_
      refine ⟨⟨q, cap, rfl, ?_⟩, Below.setCell (Below.setCell (Below.setCell (unhide HWy) (Nat.le_add_right _ _) _) (Nat.le_add_right _ _) _) (Nat.le_add_right _ _) _⟩
      have h1 := unhide HRO
      rw [unhide HE] at h1
      refine (h1.kept' (fun b hb => ?_)).mono (Nat.le_add_right _ 2)
      simp only [Value.ownBlock, Option.some.injEq] at hb
      subst hb
      have hne : q ≠ w.heap.size + 1 := by omega
      exact (Below.heap_setCell _ _ _ _ hne).trans ((Below.heap_setCell _ _ _ _ hne).trans (Below.heap_setCell _ _ _ _ hne))
theorem rtP_any (r : Int) (w : World) : Calls Try.prog 35 #[.int .i64 r] w fun e w' => e = .returned (.bool (decide (0 ≤ r) && decide (r ≤ 3))) ∧ w' = w := by
  go_enter Try.func35, Try.ntmps35
  go_wp2_with fail
  refine (bt_any r 0 3 _).mono ?_
  rintro e w' ⟨rfl, rfl⟩
  go_wp2_with fail
  go_ret
  exact ⟨rfl, rfl⟩
set_option maxHeartbeats 2000000 in
set_option maxRecDepth 100000 in
theorem flP_good (W H r : Nat) (g po n c : Nat) (T : List Int) (w : World) (hO : FOk (W : Int) (H : Int) T) (hr : r ≤ 3) (hF : Fd w g po n c T) :
    Calls Try.prog 13 #[fldV (W : Int) (H : Int) (some ⟨g, po, none⟩) n c, .int .i64 (r : Int)] w fun e w' => (∃ q cap, e = .returned (.tuple #[fldV (W : Int) (H : Int) (some ⟨q, 0, none⟩) n cap, .int .i64 0]) ∧ Row w' w.heap.size 3 1 (.slice (some ⟨q, 0, none⟩) n cap) n (flL W H r T)) ∧ Below w.heap.size w w' := by
  obtain ⟨a, b, ea, eb, ha1, ha2, hb1, hb2, hlen⟩ := hO.nat
  obtain rfl : W = a := by omega
  obtain rfl : H = b := by omega
  have hn : n = W * H := by rw [← hF.len]; exact hlen
  have HK := hide (fun X (hX : Below w.heap.size w X) => fokP_any (W : Int) (H : Int) (some ⟨g, po, none⟩) g po n c T X hF.len (by have := hF.cap; have := hF.top; omega) (hF.bel hX).its)
  rw [show fokB (W : Int) (H : Int) T = true from decide_eq_true hO] at HK
  have HR := hide (fun X => rtP_any (r : Int) X)
  rw [show (decide ((0 : Int) ≤ (r : Int)) && decide ((r : Int) ≤ 3)) = true by simp; omega] at HR
  have H1 := hide (fun X (hX : Below w.heap.size w X) => bt48_any W H r g po n c T X ha1 ha2 hb1 hb2 hr hn (hF.bel hX))
  have H2 := hide (fun (q cap : Nat) (L : List Int) (X : World) (hX : Fd X q 0 n cap L) => bt49_any W H r q 0 n cap L X ha1 ha2 hb1 hb2 hr hn hX)
  have HB := hide (ba (ba (Below.refl w.heap.size w) (.cells #[.int .i64 (W : Int), .int .i64 (H : Int), .slice (some ⟨g, po, none⟩) n c] 25)) (.cells #[.int .i64 0, .int .i64 0, .slice none 0 0] 25))
  have HV1 := hide (vb_new1 w 25 [.int .i64 (W : Int), .int .i64 (H : Int), .slice (some ⟨g, po, none⟩) n c] (.cells #[.int .i64 0, .int .i64 0, .slice none 0 0] 25))
  have HV2 := hide (vb_new2 w 25 [.int .i64 0, .int .i64 0, .slice none 0 0] (.cells #[.int .i64 (W : Int), .int .i64 (H : Int), .slice (some ⟨g, po, none⟩) n c] 25))
  unfold fldV at *
  clear hF hn hO hlen ea eb
  go_enter Try.func13, Try.ntmps13
  go_wp2_with fail
  refine (unhide HK _ (unhide HB)).mono ?_
  rintro e W1 ⟨rfl, hb1⟩
  have v1 := (unhide HV1).bel hb1
  have k0 := v1.cell (m := 0) rfl
  have k1 := v1.cell (m := 1) rfl
  have k2 := v1.cell (m := 2) rfl
  have HV2a := hide ((unhide HV2).bel hb1)
  have HB1 := hide (bc (unhide HB) hb1)
  clear hb1 v1
  go_wp2_with fail
  refine (unhide HR _).mono ?_
  rintro e W1' ⟨rfl, rfl⟩
  go_wp2_with fail
  refine (unhide H1 _ (unhide HB1)).mono ?_
  rintro e W2 ⟨⟨q1, c1, rfl, hro⟩, hb2⟩
  have HFD := hide hro.fd
  have HV2b := hide ((unhide HV2a).bel hb2)
  have HB2 := hide (bc (unhide HB1) hb2)
  clear hb2 hro k0 k1 k2
  go_wp2_with fail
  refine (unhide H2 _ _ _ _ (unhide HFD)).mono ?_
  rintro e W3 ⟨⟨q2, c2, rfl, hro⟩, hb3⟩
  have v3 := (unhide HV2b).bel hb3
  have j0 := v3.cell (m := 0) rfl
  have j1 := v3.cell (m := 1) rfl
  have j2 := v3.cell (m := 2) rfl
  have jf := v3.frozen
  have HB3 := hide (bc (unhide HB2) hb3)
  have HRO := hide (hro.mono (show w.heap.size + 2 ≤ W2.heap.size from (unhide HV2b).lt))
  clear hb3 hro v3
  go_wp2_with fail
  refine bodyPost_ret (v := .tuple #[.agg #[.int .i64 (W : Int), .int .i64 (H : Int), .slice (some ⟨q2, 0, none⟩) n c2], .int .i64 0]) (by simp [results, Try.results13, go_sem, j0, j1, j2]) rfl ?_
  have hge := (unhide HRO).ge
  have hne : q2 ≠ w.heap.size + 1 := by omega
  refine ⟨⟨q2, c2, rfl, ?_⟩, Below.setCell (Below.setCell (Below.setCell (unhide HB3) (Nat.le_add_right _ _) _) (Nat.le_add_right _ _) _) (Nat.le_add_right _ _) _⟩
  refine ((unhide HRO).kept' (fun b hb => ?_)).mono (Nat.le_add_right _ 2)
  simp only [Value.ownBlock, Option.some.injEq] at hb
  subst hb
  exact (Below.heap_setCell _ _ _ _ hne).trans ((Below.heap_setCell _ _ _ _ hne).trans (Below.heap_setCell _ _ _ _ hne))
set_option maxHeartbeats 2000000 in
theorem flP_bad (W H r : Int) (u : Option Addr) (p po n c : Nat) (T : List Int) (w : World) (hO : ¬ (FOk W H T ∧ 0 ≤ r ∧ r ≤ 3)) (hl : T.length = n) (hn : n ≤ 9223372036854775807) (hu : Its w u p po T) :
    Calls Try.prog 13 #[fldV W H u n c, .int .i64 r] w fun e w' => e = .returned (.tuple #[fldV 0 0 none 0 0, .int .i64 1]) ∧ Below w.heap.size w w' := by
  have HK := hide (fun X (hX : Below w.heap.size w X) => fokP_any W H u p po n c T X hl hn (hu.bel hX))
  have HR := hide (fun X => rtP_any r X)
  have HO : Hid (fokB W H T = true → (decide (0 ≤ r) && decide (r ≤ 3)) = false) := hide (fun h => by
    have h1 : FOk W H T := of_decide_eq_true h
    rw [Bool.eq_false_iff]
    intro h2
    simp only [Bool.and_eq_true, decide_eq_true_eq] at h2
    exact hO ⟨h1, h2.1, h2.2⟩)
  have HB := hide (ba (ba (Below.refl w.heap.size w) (.cells #[.int .i64 W, .int .i64 H, .slice u n c] 25)) (.cells #[.int .i64 0, .int .i64 0, .slice none 0 0] 25))
  have HV2 := hide (vb_new2 w 25 [.int .i64 0, .int .i64 0, .slice none 0 0] (.cells #[.int .i64 W, .int .i64 H, .slice u n c] 25))
  unfold fldV at *
  generalize (decide (0 ≤ r) && decide (r ≤ 3)) = rb at *
  generalize fokB W H T = fb at *
  clear hO hl hu
  go_enter Try.func13, Try.ntmps13
  go_wp2_with fail
  refine (unhide HK _ (unhide HB)).mono ?_
  rintro e W1 ⟨rfl, hb1⟩
  have v3 := (unhide HV2).bel hb1
  have j0 := v3.cell (m := 0) rfl
  have j1 := v3.cell (m := 1) rfl
  have j2 := v3.cell (m := 2) rfl
  have jf := v3.frozen
  have HB1 := hide (bc (unhide HB) hb1)
  clear hb1 v3
  cases fb with
  | false =>
    go_wp2_with fail
    exact bodyPost_ret (v := .tuple #[.agg #[.int .i64 0, .int .i64 0, .slice none 0 0], .int .i64 1]) (by simp [results, Try.results13, go_sem, j0, j1, j2]) rfl ⟨rfl, Below.setCell (Below.setCell (Below.setCell (unhide HB1) (Nat.le_add_right _ _) _) (Nat.le_add_right _ _) _) (Nat.le_add_right _ _) _⟩
  | true =>
    obtain rfl : rb = false := (unhide HO) rfl
    go_wp2_with fail
    refine (unhide HR _).mono ?_
    rintro e W1' ⟨rfl, rfl⟩
    go_wp2_with fail
    exact bodyPost_ret (v := .tuple #[.agg #[.int .i64 0, .int .i64 0, .slice none 0 0], .int .i64 1]) (by simp [results, Try.results13, go_sem, j0, j1, j2]) rfl ⟨rfl, Below.setCell (Below.setCell (Below.setCell (unhide HB1) (Nat.le_add_right _ _) _) (Nat.le_add_right _ _) _) (Nat.le_add_right _ _) _⟩
end Go.Proofs.Ytjhldjojkaphkaa
