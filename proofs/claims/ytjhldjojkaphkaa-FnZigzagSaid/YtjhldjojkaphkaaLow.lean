/-
  The model's lowest places of a tool.
-/
import Derived.Test.YtjhldjojkaphkaaCol
import Derived.Test.YtjhldjojkaphkaaFlMath
import Derived.BigRegion
namespace Go.Proofs.Ytjhldjojkaphkaa
open Go.ChangeShapes Go.WideShapes Go.ChangeAt Go.RowKit
set_option linter.unusedVariables false
set_option linter.unusedSimpArgs false

theorem hi_take (T : List Int) {cs : List Nat} {i c : Nat} (h : cs[i]? = some c) : hi T (cs.take (i + 1)) = max (hi T (cs.take i)) (tp T c) := by
  rw [List.take_add_one, h]
  simp [hi]
theorem nI_at {cs : List Nat} {i c : Nat} (h : cs[i]? = some c) : (nI cs)[i]? = some (c : Int) := by simp [nI, h]
set_option maxHeartbeats 4000000 in
set_option maxRecDepth 100000 in
theorem lwM_any (W H r : Nat) (g po n c : Nat) (T : List Int) (w : World) (hW1 : 1 ≤ W) (hW : W ≤ 24) (hH1 : 1 ≤ H) (hH : H ≤ 24) (hr : r ≤ 3) (hn : n = W * H) (hF : Fd w g po n c T) :
    Calls Try.prog 41 #[fldV (W : Int) (H : Int) (some ⟨g, po, none⟩) n c, .int .i64 (r : Int)] w fun e w' => (∃ v, e = .returned v ∧ v ≠ .slice none 0 0 ∧ Row w' w.heap.size 3 1 v n (lowL W H r T)) ∧ Below w.heap.size w w' := by
  have hnb : n ≤ 576 := by rw [hn]; exact Nat.mul_le_mul hW hH
  have hTl : T.length = W * H := by rw [hF.len, hn]
  have HF := hide hF
  have HC := hide (fun (x y : Nat) (X : World) (hx : x < W) (hy : y < H) => colM_any W H r x y (some ⟨g, po, none⟩) n c X hW hH hr hx hy)
  have HCL := hide (fun (x y i : Nat) (hi : i ∈ cols W H r x y) => cols_lt (W := W) (H := H) hr (by omega) hi)
  have HTL := hide hTl
  have HN := hide hn
  obtain ⟨iP, hi1, hy0, hy1, hy2⟩ := info_parts int_info3
  have HB := hide (ba (ba (Below.refl w.heap.size w) (.cells #[.int .i64 (W : Int), .int .i64 (H : Int), .slice (some ⟨g, po, none⟩) n c] 25)) (.cells #[] 3))
  have HV := hide (vb_new1 w 25 [.int .i64 (W : Int), .int .i64 (H : Int), .slice (some ⟨g, po, none⟩) n c] (.cells #[] 3))
  have HR0 : Hid (Row ((w.alloc (.cells #[.int .i64 (W : Int), .int .i64 (H : Int), .slice (some ⟨g, po, none⟩) n c] 25)).alloc (.cells #[] 3)) (w.heap.size + 1) 3 1 (.slice (some ⟨w.heap.size + 1, 0, none⟩) 0 0) 0 []) := hide (row_made _ 3 _ 1 (by simp) _ (by simp))
  unfold fldV at *
  clear hF hn hTl
  go_enter Try.func41, Try.ntmps41
  go_wp2_with fail
  go_loopw [5, 6] (fun z5 z X => ∃ y : Nat, z = .int .i64 (y : Int) ∧ y ≤ H ∧ z5 ≠ .slice none 0 0 ∧ Row X (w.heap.size + 1) 3 1 z5 (y * W) (byL (fun x y => hi T (cols W H r x y)) W (y * W)) ∧ vb X w.heap.size 25 [.int .i64 (W : Int), .int .i64 (H : Int), .slice (some ⟨g, po, none⟩) n c] ∧ Below w.heap.size w X) (fun _ z _ => H - (intOf z).toNat)
  case atStart => exact ⟨0, rfl, Nat.zero_le _, by simp, by rw [Nat.zero_mul]; exact unhide HR0, unhide HV, unhide HB⟩
  case round =>
    obtain ⟨y, rfl, hy, hz5, hro, hv, hw⟩ := hrel
    have HZ5 := hide hz5
    have HRO := hide hro
    have HVy := hide hv
    have HWy := hide hw
    have k1 := hv.cell (m := 1) rfl
    clear hz5 hro hv hw
    by_cases h : y < H
    · have i1 : (y : Int) < (H : Int) := by omega
      have i0 : (0 : Int) ≤ (y : Int) := Int.natCast_nonneg _
      have iz : decide ((y : Int) < (H : Int)) = true := decide_eq_true i1
      have hyW : y * W ≤ 24 * 24 := Nat.mul_le_mul (by omega) hW
      have HYX : Hid (∀ x, x < W → (y * W + x) % W = x ∧ (y * W + x) / W = y) := hide (fun x hx => yx hx y)
      have HY1 : Hid ((y + 1) * W = y * W + W) := hide (by rw [Nat.add_mul, Nat.one_mul])
      obtain ⟨yW, hyWe⟩ : ∃ yW, y * W = yW := ⟨_, rfl⟩
      rw [hyWe] at HRO HY1 hyW HYX
      clear hyWe
      go_wp2_with fail
      generalize hWo : wr = Wo at *
      clear hWo
      go_loopw [5, 7] (fun z5 z X => ∃ x : Nat, z = .int .i64 (x : Int) ∧ x ≤ W ∧ z5 ≠ .slice none 0 0 ∧ Row X (w.heap.size + 1) 3 1 z5 (yW + x) (byL (fun x y => hi T (cols W H r x y)) W (yW + x)) ∧ vb X w.heap.size 25 [.int .i64 (W : Int), .int .i64 (H : Int), .slice (some ⟨g, po, none⟩) n c] ∧ Below w.heap.size w X) (fun _ z _ => W - (intOf z).toNat)
      case atStart => exact ⟨0, rfl, Nat.zero_le _, unhide HZ5, unhide HRO, unhide HVy, unhide HWy⟩
      case round =>
        obtain ⟨x, rfl, hx, hz5, hro, hv, hw⟩ := hrel
        have HZx := hide hz5
        have HRx := hide hro
        have HVx := hide hv
        have HWx := hide hw
        have k0 := hv.cell (m := 0) rfl
        have k1' := hv.cell (m := 1) rfl
        have k2 := hv.cell (m := 2) rfl
        clear hz5 hro hv hw
        by_cases h2 : x < W
        · have j1 : (x : Int) < (W : Int) := by omega
          have j0 : (0 : Int) ≤ (x : Int) := Int.natCast_nonneg _
          have jz : decide ((x : Int) < (W : Int)) = true := decide_eq_true j1
          have HCx := hide (fun X => (unhide HC) x y X h2 h)
          have HCLx := hide (fun i hi => (unhide HCL) x y i hi)
          have HLS : Hid (byL (fun x y => hi T (cols W H r x y)) W (yW + (x + 1)) = byL (fun x y => hi T (cols W H r x y)) W (yW + x) ++ [hi T (cols W H r x y)]) := hide (by
            have := byL_succ (fun x y => hi T (cols W H r x y)) W (yW + x)
            obtain ⟨e1, e2⟩ := (unhide HYX) x h2
            rw [e1, e2] at this
            exact this)
          obtain ⟨cs, hcs⟩ : ∃ cs, cols W H r x y = cs := ⟨_, rfl⟩
          rw [hcs] at HCx HCLx HLS
          clear hcs
          go_wp2_with fail
          refine (unhide HCx _).mono ?_
          rintro e W4 ⟨⟨lv, rfl, hlv, hlr⟩, hb4⟩
          obtain ⟨ql, cl, rfl, hql1, hql2, hcl1, hcl2⟩ := hlr.sm hlv
          have HLI := hide hlr.ints
          have HR4 := hide ((unhide HRx).below hb4)
          have HV4 := hide ((unhide HVx).bel hb4)
          have HW4 := hide (bc (unhide HWx) hb4)
          obtain ⟨m, hm⟩ : ∃ m, cs.length = m := ⟨_, rfl⟩
          rw [hm] at hcl1 ⊢
          have HM := hide hm
          clear hb4 hlr hlv k0 k1' k2 hm
          have hml : m ≤ 9223372036854775807 := by unfold maxLen at hcl2; omega
          go_wp2_with fail
          go_loopw [8, 10] (fun z8 z X => ∃ i : Nat, z = .int .i64 (i : Int) ∧ i ≤ m ∧ z8 = .int .i64 (hi T (cs.take i)) ∧ Same W4 X) (fun _ z _ => m - (intOf z).toNat)
          case atStart => exact ⟨0, rfl, Nat.zero_le _, rfl, Same.refl _⟩
          case round =>
            obtain ⟨i, rfl, hii, rfl, hs⟩ := hrel
            have HS := hide hs
            by_cases h3 : i < m
            · have l1 : (i : Int) < (m : Int) := by omega
              have l0 : (0 : Int) ≤ (i : Int) := Int.natCast_nonneg _
              have lz : decide ((i : Int) < (m : Int)) = true := decide_eq_true l1
              obtain ⟨ci, hci⟩ := get_some (unhide HM) h3
              have c1 := (unhide HLI) i _ (nI_at hci)
              have hcl : ci < W * H := (unhide HCLx) ci (List.mem_of_getElem? hci)
              have c2 := iat (unhide HF).ints (i := ci) (by rw [unhide HTL]; exact hcl)
              have c2' := (unhide HW4).cell (p := ⟨g, po + ci, none⟩) (unhide HF).lt |>.trans c2
              have c3 := (unhide HV4).cell (m := 2) rfl
              rw [Nat.zero_add] at c1
              rw [← hs.cell] at c1 c2' c3
              have HHT := hide (hi_take T hci)
              have q1 : (ci : Int) < (n : Int) := by rw [unhide HN]; omega
              have q0 : (0 : Int) ≤ (ci : Int) := Int.natCast_nonneg _
              generalize hi T (cs.take i) = mm at *
              generalize tp T ci = tt at *
              clear hs hci c2 hcl
              go_wp2_with fail
              go_region
              go_wp2_with fail
              go_roundw
              case rel => exact ⟨i + 1, by simp, h3, by rw [unhide HHT]; first | done | rfl, by repeat (first | exact unhide HS | refine Same.drew ?_)⟩
              case measure => simp only [intOf]; omega
            · have lz : decide ((i : Int) < (m : Int)) = false := decide_eq_false (by omega)
              have HE : Hid (hi T (cs.take i) = hi T cs) := hide (by rw [List.take_of_length_le (by rw [unhide HM]; omega)])
              have hb5 : Below W4.heap.size W4 wr := hs.bel
              have HR5 := hide ((unhide HR4).below hb5)
              have HV5 := hide ((unhide HV4).bel hb5)
              have HW5 := hide (bc (unhide HW4) hb5)
              have HSZ : Hid (w.heap.size + 1 ≤ wr.heap.size) := hide (unhide HV5).lt
              generalize hi T (cs.take i) = mm at *
              clear hs hb5
              go_wp2_with (at_builtin; refine unhide ?_)
              refine hide ?_
              refine wpList_append_own _ rfl _ _ 23 rfl (w.heap.size + 1) 3 iP _ 1 8 Try.underlying23 hi1 hy0 hy1 hy2 rfl (by decide) _ (yW + x) ((byL (fun x y => hi T (cols W H r x y)) W (yW + x)).map (Value.int .i64)) rfl ((unhide HR5).alloc _) _ 1 1 ([mm].map (Value.int .i64)) rfl rfl (by first | exact news_cells _ _ rfl | exact news_cells _ _ (by simp)) ints_one (by unfold maxLen; omega) (by omega) (by first | (have := unhide HSZ; omega) | (have := unhide HSZ; simp; omega)) ?_
              intro v1 w1 hown' hgrow hvn1
              have R1 := own_more (wr := wr) (news := [mm]) (by repeat (first | exact Below.refl _ _ | refine Below.alloc ?_ (by first | exact unhide HSZ | (simp; exact unhide HSZ)) _ | refine Below.drew ?_)) (by first | exact Nat.le_trans (unhide HSZ) (by simp) | (have := unhide HSZ; simp; omega) | (have := unhide HSZ; omega)) (unhide HR5) hown' hgrow
              have HR6 := hide R1.1
              have HN6 : Hid (v1 ≠ .slice none 0 0) := hide (fun e => by have := (hvn1.1 e).2; omega)
              have HV6 := hide ((unhide HV5).below R1.2 (Nat.lt_succ_self _))
              have HW6 := hide ((unhide HW5).trans (R1.2.mono (Nat.le_succ _)))
              clear hown' hgrow hvn1 R1
              go_wp2_with fail
              go_roundw
              case rel => exact ⟨x + 1, by simp, h2, unhide HN6, by rw [unhide HLS, ← unhide HE, ← Nat.add_assoc]; exact unhide HR6, unhide HV6, unhide HW6⟩
              case measure => simp only [intOf]; omega
        · have jz : decide ((x : Int) < (W : Int)) = false := decide_eq_false (by omega)
          have ex : x = W := by omega
          have HRz : Hid (Row wr (w.heap.size + 1) 3 1 u5 ((y + 1) * W) (byL (fun x y => hi T (cols W H r x y)) W ((y + 1) * W))) := hide (by rw [unhide HY1]; rw [ex] at HRx; exact unhide HRx)
          go_wp2_with fail
          go_roundw
          case rel => exact ⟨y + 1, by simp, h, unhide HZx, unhide HRz, unhide HVx, unhide HWx⟩
          case measure => simp only [intOf]; omega
    · have iz : decide ((y : Int) < (H : Int)) = false := decide_eq_false (by omega)
      have ey : y * W = n := by rw [show y = H by omega, unhide HN, Nat.mul_comm]
      rw [ey] at HRO
      have HLE : Hid (byL (fun x y => hi T (cols W H r x y)) W n = lowL W H r T) := hide (by unfold lowL; rw [unhide HN])
      clear ey
      go_wp2_with fail
      go_ret
      refine ⟨⟨_, rfl, unhide HZ5, ?_⟩, unhide HWy⟩
      have h1 := unhide HRO
      rw [unhide HLE] at h1
      exact h1.mono (Nat.le_succ _)
end Go.Proofs.Ytjhldjojkaphkaa
