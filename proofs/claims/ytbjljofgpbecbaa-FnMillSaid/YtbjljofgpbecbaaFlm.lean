/-
  The model's floor.
-/
import Derived.Test.YtbjljofgpbecbaaLow
namespace Go.Proofs.Ytbjljofgpbecbaa
open Go.ChangeShapes Go.WideShapes Go.ChangeAt Go.RowKit
set_option linter.unusedVariables false
set_option linter.unusedSimpArgs false

theorem tlM_any (r : Int) (w : World) : Calls Try.prog 50 #[.int .i64 r] w fun e w' => e = .returned (.bool (decide (0 ≤ r) && decide (r ≤ 3))) ∧ w' = w := by
  by_cases h1 : 0 ≤ r
  · by_cases h2 : r ≤ 3
    · have t1 := decide_eq_true h1
      have t2 := decide_eq_true h2
      go_enter Try.func50, Try.ntmps50
      go_wp2_with fail
      go_ret
      exact ⟨by simp [h1, h2], rfl⟩
    · have t1 := decide_eq_true h1
      have t2 := decide_eq_false h2
      go_enter Try.func50, Try.ntmps50
      go_wp2_with fail
      go_ret
      exact ⟨by simp [h1, h2], rfl⟩
  · have t1 := decide_eq_false h1
    go_enter Try.func50, Try.ntmps50
    go_wp2_with fail
    go_ret
    exact ⟨by simp [h1], rfl⟩
theorem mins_take (O : List Int) {cs : List Nat} {i c : Nat} (v : Int) (h : cs[i]? = some c) : mins O (cs.take (i + 1)) v = (mins O (cs.take i) v).set c (min (tp (mins O (cs.take i) v) c) v) := by
  rw [List.take_add_one, h]
  exact mins_snoc _ _ _ _
set_option maxHeartbeats 8000000 in
set_option maxRecDepth 100000 in
theorem flM_good (W H r : Nat) (g po n c : Nat) (T : List Int) (w : World) (hO : FOk (W : Int) (H : Int) T) (hr : r ≤ 3) (hF : Fd w g po n c T) :
    Calls Try.prog 16 #[fldV (W : Int) (H : Int) (some ⟨g, po, none⟩) n c, .int .i64 (r : Int)] w fun e w' => (∃ q cap, e = .returned (.tuple #[fldV (W : Int) (H : Int) (some ⟨q, 0, none⟩) n cap, .int .i64 0]) ∧ Row w' w.heap.size 3 1 (.slice (some ⟨q, 0, none⟩) n cap) n (flL W H r T)) ∧ Below w.heap.size w w' := by
  obtain ⟨a, b, ea, eb, hW1, hW, hH1, hH, hlen⟩ := hO.nat
  obtain rfl : W = a := by omega
  obtain rfl : H = b := by omega
  have hn : n = W * H := by rw [← hF.len]; exact hlen
  have hnb : n ≤ 576 := by rw [hn]; exact Nat.mul_le_mul hW hH
  have hn1 : 1 ≤ n := by rw [hn]; exact Nat.mul_pos hW1 hH1
  have HK := hide (fun X (hX : Below w.heap.size w X) => fokM_any (W : Int) (H : Int) (some ⟨g, po, none⟩) g po n c T X hF.len (by have := hF.cap; have := hF.top; omega) (hF.bel hX).its)
  rw [show fokB (W : Int) (H : Int) T = true from decide_eq_true hO] at HK
  have HR := hide (fun X => tlM_any (r : Int) X)
  rw [show (decide ((0 : Int) ≤ (r : Int)) && decide ((r : Int) ≤ 3)) = true by simp; omega] at HR
  have HL := hide (fun X (hX : Below w.heap.size w X) => lwM_any W H r g po n c T X hW1 hW hH1 hH hr hn (hF.bel hX))
  have HC := hide (fun (x y : Nat) (X : World) (hx : x < W) (hy : y < H) => colM_any W H r x y (some ⟨g, po, none⟩) n c X hW hH hr hx hy)
  have HCL := hide (fun (x y i : Nat) (hi : i ∈ cols W H r x y) => cols_lt (W := W) (H := H) hr (by omega) hi)
  have HFE := hide (flTo_eq (W := W) (H := H) hr hW1 hH1 T)
  have HN := hide hn
  have HLL : Hid ((lowL W H r T).length = n) := hide (by unfold lowL; rw [byL_len, hn])
  obtain ⟨LL, hLLe⟩ : ∃ LL, lowL W H r T = LL := ⟨_, rfl⟩
  rw [hLLe] at HL HFE HLL
  obtain ⟨iP, hi1, hy0, hy1, hy2⟩ := info_parts int_info3
  have HB := hide (ba (ba (Below.refl w.heap.size w) (.cells #[.int .i64 (W : Int), .int .i64 (H : Int), .slice (some ⟨g, po, none⟩) n c] 25)) (.cells #[.int .i64 0, .int .i64 0, .slice none 0 0] 25))
  have HV1 := hide (vb_new1 w 25 [.int .i64 (W : Int), .int .i64 (H : Int), .slice (some ⟨g, po, none⟩) n c] (.cells #[.int .i64 0, .int .i64 0, .slice none 0 0] 25))
  have HV2 := hide (vb_new2 w 25 [.int .i64 0, .int .i64 0, .slice none 0 0] (.cells #[.int .i64 (W : Int), .int .i64 (H : Int), .slice (some ⟨g, po, none⟩) n c] 25))
  unfold fldV at *
  clear hF hn hO hlen ea eb hLLe
  go_enter Try.func16, Try.ntmps16
  go_wp2_with fail
  refine (unhide HK _ (unhide HB)).mono ?_
  rintro e W1 ⟨rfl, hb1⟩
  have v1 := (unhide HV1).bel hb1
  have k0 := v1.cell (m := 0) rfl
  have k1 := v1.cell (m := 1) rfl
  have k2 := v1.cell (m := 2) rfl
  have HV1a := hide v1
  have HV2a := hide ((unhide HV2).bel hb1)
  have HB1 := hide (bc (unhide HB) hb1)
  clear hb1 v1
  go_wp2_with fail
  refine (unhide HR _).mono ?_
  rintro e W1' ⟨rfl, rfl⟩
  go_wp2_with fail
  refine (unhide HL _ (unhide HB1)).mono ?_
  rintro e W2 ⟨⟨lv, rfl, hlv, hlr⟩, hb2⟩
  obtain ⟨ql, cl, rfl, hql1, hql2, hcl1, hcl2⟩ := hlr.sm hlv
  have v1 := (unhide HV1a).bel hb2
  have k0 := v1.cell (m := 0) rfl
  have k1 := v1.cell (m := 1) rfl
  have hA : Below W2.heap.size W2 (W2.alloc (.cells #[.int .i64 (W : Int), .int .i64 (H : Int), .slice none 0 0] 25)) := ba (Below.refl _ _) _
  have HVP := hide (v1.bel hA)
  have HVO := hide (((unhide HV2a).bel hb2).bel hA)
  have HVM := hide (vb_new W2 25 [.int .i64 (W : Int), .int .i64 (H : Int), .slice none 0 0] W2.heap.size rfl)
  have HLI : Hid (IntsAt (W2.alloc (.cells #[.int .i64 (W : Int), .int .i64 (H : Int), .slice none 0 0] 25)) ql 0 LL) := hide (hlr.ints.below hA hql2)
  have HWB := hide (bc (bc (unhide HB1) hb2) hA)
  have HMB : Hid (w.heap.size + 2 ≤ W2.heap.size) := hide (((unhide HV2a).bel hb2).lt)
  have HSZ0 : Hid (W2.heap.size + 1 ≤ (W2.alloc (.cells #[.int .i64 (W : Int), .int .i64 (H : Int), .slice none 0 0] 25)).heap.size) := hide (by simp)
  clear hb2 hlr hlv v1 hA
  go_wp2_with fail
  generalize W2.alloc (.cells #[.int .i64 (W : Int), .int .i64 (H : Int), .slice none 0 0] 25) = W3 at *
  generalize W2.heap.size = M at *
  clear k0 k1 k2
  go_loopw [8] (fun z X => ∃ (i : Nat) (ov : Value), z = .int .i64 (i : Int) ∧ i ≤ n ∧ (i ≠ 0 → ov ≠ .slice none 0 0) ∧ Row X (M + 1) 3 1 ov i (List.replicate i 24) ∧ vb X M 25 [.int .i64 (W : Int), .int .i64 (H : Int), ov] ∧ Below M W3 X) (fun z _ => n - (intOf z).toNat)
  case atStart => exact ⟨0, .slice none 0 0, rfl, Nat.zero_le _, fun h => absurd rfl h, ⟨rfl, .inl ⟨rfl, rfl⟩⟩, unhide HVM, Below.refl _ _⟩
  case round =>
    obtain ⟨i, ov, rfl, hi, hov, hro, hvm, hw⟩ := hrel
    have HOV := hide hov
    have HRO := hide hro
    have HVMi := hide hvm
    have HWi := hide hw
    have hvp := (unhide HVP).below hw (by have := unhide HMB; omega)
    have p2 := hvp.cell (m := 2) rfl
    have m2 := hvm.cell (m := 2) rfl
    have mf := hvm.frozen
    have HSZ : Hid (M + 1 ≤ wr.heap.size) := hide hvm.lt
    clear hov hro hw
    by_cases h : i < n
    · have i1 : (i : Int) < (n : Int) := by omega
      have i0 : (0 : Int) ≤ (i : Int) := Int.natCast_nonneg _
      have iz : decide ((i : Int) < (n : Int)) = true := decide_eq_true i1
      clear hvm hvp mf
      go_wp2_with (at_builtin; refine unhide ?_)
      refine hide ?_
      refine wpList_append_own _ rfl _ _ 23 rfl (M + 1) 3 iP _ 1 8 Try.underlying23 hi1 hy0 hy1 hy2 rfl (by decide) _ i ((List.replicate i (24 : Int)).map (Value.int .i64)) rfl ((unhide HRO).alloc _) _ 1 1 ([(24 : Int)].map (Value.int .i64)) rfl rfl (by first | exact news_cells _ _ rfl | exact news_cells _ _ (by simp)) ints_one (by unfold maxLen; omega) (by omega) (by first | (have := unhide HSZ; omega) | (have := unhide HSZ; simp; omega)) ?_
      intro v1 w1 hown' hgrow hvn1
      have R1 := own_more (wr := wr) (news := [(24 : Int)]) (by repeat (first | exact Below.refl _ _ | refine Below.alloc ?_ (by first | exact unhide HSZ | (simp; exact unhide HSZ)) _ | refine Below.drew ?_)) (by first | exact Nat.le_trans (unhide HSZ) (by simp) | (have := unhide HSZ; simp; omega) | (have := unhide HSZ; omega)) (unhide HRO) hown' hgrow
      have hne1 : v1 ≠ .slice none 0 0 := fun e => by have := (hvn1.1 e).2; omega
      obtain ⟨q1, c1, rfl, _, _, _, _⟩ := R1.1.sm hne1
      have HR1 := hide R1.1
      have HN1 := hide hne1
      have hvm := (unhide HVMi).below R1.2 (Nat.lt_succ_self _)
      have HV6 := hide hvm
      have m2' := hvm.cell (m := 2) rfl
      have mf := hvm.frozen
      have HW6 := hide ((unhide HWi).trans (R1.2.mono (Nat.le_succ _)))
      clear hown' hgrow hvn1 R1 hvm m2 hne1
      go_wp2_with fail
      go_roundw
      case rel =>
        refine ⟨i + 1, _, by simp, h, fun _ => unhide HN1, ?_, (unhide HV6).set 2 _, Below.setCell (unhide HW6) (Nat.le_refl _) _⟩
        rw [List.replicate_succ']
        exact (unhide HR1).kept' (fun b hb => by
          have h1 := (World.ownsRow.lt (unhide HR1) b hb).1
          exact Below.heap_setCell _ _ _ _ (by show b ≠ M; omega))
      case measure => simp only [intOf]; omega
    · have iz : decide ((i : Int) < (n : Int)) = false := decide_eq_false (by omega)
      have ei : i = n := by omega
      rw [ei] at HRO HOV
      obtain ⟨q, cap, rfl, hq1, hq2, hc1, hc2⟩ := (unhide HRO).sm ((unhide HOV) (by omega))
      have HR7 : Hid (Row wr (M + 1) 3 1 (.slice (some ⟨q, 0, none⟩) n cap) n (flTo W H r LL 0)) := hide (by have := unhide HRO; rw [unhide HN] at this; rw [unhide HN]; exact this)
      have HQM : Hid (M + 1 ≤ q) := hide hq1
      have HWn := hide (show Below M W3 wr from unhide HWi)
      clear hvm hvp m2 mf ei HRO HOV hq1 hq2 HWi
      go_wp2_with fail
      clear p2
      generalize hW5 : wr = W5 at *
      clear hW5
      go_loopw [9] (fun z X => ∃ y : Nat, z = .int .i64 (y : Int) ∧ y ≤ H ∧ Row X (M + 1) 3 1 (.slice (some ⟨q, 0, none⟩) n cap) n (flTo W H r LL (y * W)) ∧ vb X M 25 [.int .i64 (W : Int), .int .i64 (H : Int), .slice (some ⟨q, 0, none⟩) n cap] ∧ Below M W3 X) (fun z _ => H - (intOf z).toNat)
      case atStart => exact ⟨0, rfl, Nat.zero_le _, by rw [Nat.zero_mul]; exact unhide HR7, unhide HVMi, unhide HWn⟩
      case round =>
        obtain ⟨y, rfl, hy, hro, hvm, hw⟩ := hrel
        have HRy := hide hro
        have HVy := hide hvm
        have HWy := hide hw
        have hvp := (unhide HVP).below hw (by have := unhide HMB; omega)
        have p1 := hvp.cell (m := 1) rfl
        have hvo := (unhide HVO).below hw (by have := unhide HMB; omega)
        have o0 := hvo.cell (m := 0) rfl
        have o1 := hvo.cell (m := 1) rfl
        have o2 := hvo.cell (m := 2) rfl
        have of := hvo.frozen
        have m0 := hvm.cell (m := 0) rfl
        have m1 := hvm.cell (m := 1) rfl
        have m2 := hvm.cell (m := 2) rfl
        clear hro hvm hvp hvo hw
        by_cases h4 : y < H
        · have y1 : (y : Int) < (H : Int) := by omega
          have y0 : (0 : Int) ≤ (y : Int) := Int.natCast_nonneg _
          have yz : decide ((y : Int) < (H : Int)) = true := decide_eq_true y1
          have hyW : y * W ≤ 24 * 24 := Nat.mul_le_mul (by omega) hW
          have hyn : y * W + W ≤ n := by
            have : (y + 1) * W ≤ H * W := Nat.mul_le_mul_right W h4
            rw [unhide HN, Nat.mul_comm W H]
            rw [Nat.add_mul, Nat.one_mul] at this
            exact this
          have HYX : Hid (∀ x, x < W → (y * W + x) % W = x ∧ (y * W + x) / W = y) := hide (fun x hx => yx hx y)
          have HY1 : Hid ((y + 1) * W = y * W + W) := hide (by rw [Nat.add_mul, Nat.one_mul])
          have eyW : (y : Int) * (W : Int) = ((y * W : Nat) : Int) := by simp
          obtain ⟨yW, hyWe⟩ : ∃ yW, y * W = yW := ⟨_, rfl⟩
          rw [hyWe] at HRy HY1 hyW hyn HYX eyW
          have wyW : IntKind.i64.wrap ((y : Int) * (W : Int)) = (yW : Int) := by rw [eyW]; exact Go.IntWalk.i64_in _ ⟨by omega, by omega⟩
          clear hyWe eyW o0 o1 o2 of m0 m1 m2
          go_wp2_with fail
          generalize hW6 : wr = W6 at *
          clear hW6
          go_loopw [10] (fun z X => ∃ x : Nat, z = .int .i64 (x : Int) ∧ x ≤ W ∧ Row X (M + 1) 3 1 (.slice (some ⟨q, 0, none⟩) n cap) n (flTo W H r LL (yW + x)) ∧ vb X M 25 [.int .i64 (W : Int), .int .i64 (H : Int), .slice (some ⟨q, 0, none⟩) n cap] ∧ Below M W3 X) (fun z _ => W - (intOf z).toNat)
          case atStart => exact ⟨0, rfl, Nat.zero_le _, unhide HRy, unhide HVy, unhide HWy⟩
          case round =>
            obtain ⟨x, rfl, hx, hro, hvm, hw⟩ := hrel
            have HRx := hide hro
            have HVx := hide hvm
            have HWx := hide hw
            have hvp := (unhide HVP).below hw (by have := unhide HMB; omega)
            have r0 := hvp.cell (m := 0) rfl
            have r1 := hvp.cell (m := 1) rfl
            have r2 := hvp.cell (m := 2) rfl
            clear hro hvm hvp hw
            by_cases h5 : x < W
            · have x1 : (x : Int) < (W : Int) := by omega
              have x0 : (0 : Int) ≤ (x : Int) := Int.natCast_nonneg _
              have xz : decide ((x : Int) < (W : Int)) = true := decide_eq_true x1
              have HCx := hide (fun X => (unhide HC) x y X h5 h4)
              have HCLx := hide (fun i hi => (unhide HCL) x y i hi)
              have HNX : Hid (flTo W H r LL (yW + (x + 1)) = mins (flTo W H r LL (yW + x)) (cols W H r x y) (tp LL (yW + x))) := hide (by
                obtain ⟨e1, e2⟩ := (unhide HYX) x h5
                show mins (flTo W H r LL (yW + x)) (cols W H r ((yW + x) % W) ((yW + x) / W)) (tp LL (yW + x)) = _
                rw [e1, e2])
              have HFL := hide (flTo_len W H r LL (yW + x))
              obtain ⟨cs, hcs⟩ : ∃ cs, cols W H r x y = cs := ⟨_, rfl⟩
              obtain ⟨OO, hOO⟩ : ∃ OO, flTo W H r LL (yW + x) = OO := ⟨_, rfl⟩
              rw [hcs] at HCx HCLx HNX
              rw [hOO] at HRx HNX HFL
              clear hcs hOO
              have hyx : yW + x < n := by omega
              have lwc := iat (T := LL) (unhide HLI) (i := yW + x) (by rw [unhide HLL]; exact hyx)
              rw [Nat.zero_add] at lwc
              obtain ⟨lw, hlw⟩ : ∃ lw, tp LL (yW + x) = lw := ⟨_, rfl⟩
              rw [hlw] at lwc HNX
              have HLWC := hide lwc
              have wyx : IntKind.i64.wrap ((yW : Int) + (x : Int)) = ((yW + x : Nat) : Int) := by
                rw [Int.natCast_add]
                exact Go.IntWalk.i64_in _ ⟨by omega, by omega⟩
              obtain ⟨yx', hyx'⟩ : ∃ yx', yW + x = yx' := ⟨_, rfl⟩
              rw [hyx'] at wyx HLWC hyx
              have HYXE := hide hyx'
              clear hlw lwc hyx'
              go_wp2_with fail
              refine (unhide HCx _).mono ?_
              rintro e W7 ⟨⟨lv, rfl, hlv, hlr⟩, hb7⟩
              obtain ⟨qs, cq, rfl, hqs1, hqs2, hcq1, hcq2⟩ := hlr.sm hlv
              have HCI := hide hlr.ints
              have HR7' := hide ((unhide HRx).below hb7)
              have HV7 := hide ((unhide HVx).bel hb7)
              have HW7 := hide ((unhide HWx).trans (hb7.mono (by have := (unhide HVx).lt; omega)))
              have HQS : Hid (q < qs) := hide (by
                have := (World.ownsRow.lt (unhide HRx) q rfl).2
                omega)
              obtain ⟨m, hm⟩ : ∃ m, cs.length = m := ⟨_, rfl⟩
              rw [hm] at hcq1 ⊢
              have HM := hide hm
              clear hb7 hlr hlv r0 r1 r2 hm
              have hml : m ≤ 9223372036854775807 := by unfold maxLen at hcq2; omega
              go_wp2_with fail
              go_loopw [12] (fun z X => ∃ i : Nat, z = .int .i64 (i : Int) ∧ i ≤ m ∧ Row X (M + 1) 3 1 (.slice (some ⟨q, 0, none⟩) n cap) n (mins OO (cs.take i) lw) ∧ vb X M 25 [.int .i64 (W : Int), .int .i64 (H : Int), .slice (some ⟨q, 0, none⟩) n cap] ∧ IntsAt X qs 0 (nI cs) ∧ Below M W3 X) (fun z _ => m - (intOf z).toNat)
              case atStart => exact ⟨0, rfl, Nat.zero_le _, unhide HR7', unhide HV7, unhide HCI, unhide HW7⟩
              case round =>
                obtain ⟨i, rfl, hii, hro, hvm, hci, hw⟩ := hrel
                have HRi := hide hro
                have HVi := hide hvm
                have HCIi := hide hci
                have HWi := hide hw
                by_cases h6 : i < m
                · have l1 : (i : Int) < (m : Int) := by omega
                  have l0 : (0 : Int) ≤ (i : Int) := Int.natCast_nonneg _
                  have lz : decide ((i : Int) < (m : Int)) = true := decide_eq_true l1
                  obtain ⟨ci, hcie⟩ := get_some (unhide HM) h6
                  have c1 := hci i _ (nI_at hcie)
                  rw [Nat.zero_add] at c1
                  have hcl : ci < n := by rw [unhide HN]; exact (unhide HCLx) ci (List.mem_of_getElem? hcie)
                  have hol : (mins OO (cs.take i) lw).length = n := by rw [mins_len, unhide HFL, unhide HN]
                  have c2 := hro.cellAt (tp_at (T := mins OO (cs.take i) lw) (i := ci) (by omega))
                  have HMT := hide (mins_take OO lw hcie)
                  have m2 := hvm.cell (m := 2) rfl
                  have hvp := (unhide HVP).below hw (by have := unhide HMB; omega)
                  have r0 := hvp.cell (m := 0) rfl
                  have c3 : wr.cell? ⟨ql, yx', none⟩ = some (.int .i64 lw) := (hw.cell (p := ⟨ql, yx', none⟩) (by show ql < M; exact hql2)).trans (unhide HLWC)
                  have fz := hro.frz
                  have q1 : (ci : Int) < (n : Int) := by omega
                  have q0 : (0 : Int) ≤ (ci : Int) := Int.natCast_nonneg _
                  have q2 : (yx' : Int) < (n : Int) := by omega
                  have q3 : (0 : Int) ≤ (yx' : Int) := Int.natCast_nonneg _
                  generalize tp (mins OO (cs.take i) lw) ci = tt at *
                  clear hro hvm hci hw hcie hvp
                  go_wp2_with fail
                  go_region
                  go_wp2_with fail
                  go_roundw
                  case rel =>
                    have hqM := unhide HQM
                    have hqs := unhide HQS
                    refine ⟨i + 1, by simp, h6, ?_, ?_, ?_, ?_⟩
                    · rw [unhide HMT]
                      exact Row.set (w := wr.drew) (unhide HRi) ci (by omega) (min tt lw)
                    · exact vb.ne (w := wr.drew) (unhide HVi) (show M ≠ q by omega)
                    · exact IntsAt.blk (w := wr.drew) (unhide HCIi) (Below.heap_setCell _ _ _ _ (show qs ≠ q by omega))
                    · exact Below.setCell (unhide HWi).drew (by show M ≤ q; omega) _
                  case measure => simp only [intOf]; omega
                · have lz : decide ((i : Int) < (m : Int)) = false := decide_eq_false (by omega)
                  have HE : Hid (flTo W H r LL (yW + (x + 1)) = mins OO (cs.take i) lw) := hide (by rw [unhide HNX, List.take_of_length_le (by rw [unhide HM]; omega)])
                  clear hro hvm hci hw
                  go_wp2_with fail
                  go_roundw
                  case rel => exact ⟨x + 1, by simp, h5, by rw [unhide HE]; exact unhide HRi, unhide HVi, unhide HWi⟩
                  case measure => simp only [intOf]; omega
            · have xz : decide ((x : Int) < (W : Int)) = false := decide_eq_false (by omega)
              have ex : x = W := by omega
              rw [ex, ← unhide HY1] at HRx
              go_wp2_with fail
              go_roundw
              case rel => exact ⟨y + 1, by simp, h4, unhide HRx, unhide HVx, unhide HWx⟩
              case measure => simp only [intOf]; omega
        · have yz : decide ((y : Int) < (H : Int)) = false := decide_eq_false (by omega)
          have HE : Hid (flTo W H r LL (y * W) = flL W H r T) := hide (by rw [← unhide HFE, show y = H by omega, Nat.mul_comm])
          have hqM := unhide HQM
          have hMB := unhide HMB
          have hge : w.heap.size + 2 ≤ q := by omega
          have HW9 : Hid (Below w.heap.size w wr) := hide ((unhide HWB).trans ((unhide HWy).mono (by omega)))
          go_wp2_with fail
          refine bodyPost_ret (v := .tuple #[.agg #[.int .i64 (W : Int), .int .i64 (H : Int), .slice (some ⟨q, 0, none⟩) n cap], .int .i64 0]) (by simp [results, Try.results16, go_sem, o0, o1, o2, m0, m1, m2]) rfl ?_
          refine ⟨⟨q, cap, rfl, ?_⟩, Below.setCell (Below.setCell (Below.setCell (unhide HW9) (Nat.le_add_right _ _) _) (Nat.le_add_right _ _) _) (Nat.le_add_right _ _) _⟩
          have h1 := unhide HRy
          rw [unhide HE] at h1
          refine (h1.kept' (fun b hb => ?_)).mono (by omega)
          simp only [Value.ownBlock, Option.some.injEq] at hb
          subst hb
          have hne : q ≠ w.heap.size + 1 := by omega
          exact (Below.heap_setCell _ _ _ _ hne).trans ((Below.heap_setCell _ _ _ _ hne).trans (Below.heap_setCell _ _ _ _ hne))
end Go.Proofs.Ytbjljofgpbecbaa
