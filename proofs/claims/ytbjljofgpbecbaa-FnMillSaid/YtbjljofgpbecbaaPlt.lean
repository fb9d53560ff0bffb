/-
  The program's places of a way.
-/
import Derived.Test.YtbjljofgpbecbaaSml
namespace Go.Proofs.Ytbjljofgpbecbaa
open Go.ChangeShapes Go.WideShapes Go.ChangeAt Go.RowKit
set_option linter.unusedVariables false
set_option linter.unusedSimpArgs false

theorem pl_info : (Try.prog.info? 68).map (fun i => (i.zero, i.size, i.bytes)) = some (some (.agg #[.int .i64 0, .int .i64 0, .int .i64 0]), 3, 24) := by kernel_rfl
theorem row_vb3 {X : World} {B b : Nat} {x y z : Int} (h : vb X b 68 [.int .i64 x, .int .i64 y, .int .i64 z]) (hB : B ≤ b) : Row X B 68 3 (.slice (some ⟨b, 0, none⟩) 1 1) 1 [x, y, z] :=
  ⟨by simp, .inr ⟨b, 1, #[.int .i64 x, .int .i64 y, .int .i64 z], rfl, hB, h, by omega, by unfold maxLen; omega, by simp, by simp⟩⟩
/-- how long a slice is -/
def slen : Value → Nat
  | .slice _ n _ => n
  | _ => 0
theorem Row.slen {w : World} {B t k n : Nat} {v : Value} {L : List Int} (h : Row w B t k v n L) : slen v = n := by
  obtain ⟨u, cap, rfl, _⟩ := h.form
  rfl
set_option maxHeartbeats 8000000 in
set_option maxRecDepth 100000 in
theorem ptP_any (fx fy fz tx ty tz : Int) (w : World) (hs : str fx fy fz tx ty tz) (hf : (0 ≤ fx ∧ fx ≤ 24) ∧ (0 ≤ fy ∧ fy ≤ 24) ∧ (0 ≤ fz ∧ fz ≤ 24)) (ht : (0 ≤ tx ∧ tx ≤ 24) ∧ (0 ≤ ty ∧ ty ≤ 24) ∧ (0 ≤ tz ∧ tz ≤ 24)) :
    Calls Try.prog 44 #[plV fx fy fz, plV tx ty tz] w fun e w' => (∃ v, e = .returned v ∧ v ≠ .slice none 0 0 ∧ Row w' w.heap.size 68 3 v (max (stN fx fy fz tx ty tz) 1) (wayF fx fy fz tx ty tz (max (stN fx fy fz tx ty tz) 1))) ∧ Below w.heap.size w w' := by
  have HB := hide (ba (ba (Below.refl w.heap.size w) (.cells #[.int .i64 fx, .int .i64 fy, .int .i64 fz] 68)) (.cells #[.int .i64 tx, .int .i64 ty, .int .i64 tz] 68))
  have v2 := vb_new1 w 68 [.int .i64 fx, .int .i64 fy, .int .i64 fz] (.cells #[.int .i64 tx, .int .i64 ty, .int .i64 tz] 68)
  have v3 := vb_new2 w 68 [.int .i64 tx, .int .i64 ty, .int .i64 tz] (.cells #[.int .i64 fx, .int .i64 fy, .int .i64 fz] 68)
  have HV2 := hide v2
  have HV3 := hide v3
  have he := fun W => eql68 fx fy fz tx ty tz W
  clear v2 v3
  obtain ⟨iP, hi1, hy0, hy1, hy2⟩ := info_parts pl_info
  by_cases h0 : fx = tx ∧ fy = ty ∧ fz = tz
  · obtain ⟨rfl, rfl, rfl⟩ := h0
    have eN : max (stN fx fy fz fx fy fz) 1 = 1 := by unfold stN; simp
    have eL : wayF fx fy fz fx fy fz 1 = [fx, fy, fz] := by simp [wayF, nth_still]
    rw [eN, eL]
    have he2 : ∀ W, (binOp .eql 68 (.agg #[.int .i64 fx, .int .i64 fy, .int .i64 fz]) (.agg #[.int .i64 fx, .int .i64 fy, .int .i64 fz])).run Try.prog W = .ok (.bool true) W := fun W => by have := he W; simpa using this
    clear he
    unfold plV
    go_enter Try.func44, Try.ntmps44
    go_wp2_with fail
    go_ret
    exact ⟨⟨_, rfl, by simp, row_vb3 (vb_new _ 68 [.int .i64 fx, .int .i64 fy, .int .i64 fz] _ (by simp)) (by omega)⟩, ba (unhide HB) _⟩
  · have he2 : ∀ W, (binOp .eql 68 (.agg #[.int .i64 fx, .int .i64 fy, .int .i64 fz]) (.agg #[.int .i64 tx, .int .i64 ty, .int .i64 tz])).run Try.prog W = .ok (.bool false) W := fun W => by have := he W; rw [decide_eq_false h0] at this; exact this
    clear he
    obtain ⟨⟨hf1, hf2⟩, ⟨hf3, hf4⟩, hf5, hf6⟩ := hf
    obtain ⟨⟨ht1, ht2⟩, ⟨ht3, ht4⟩, ht5, ht6⟩ := ht
    have hN1 : 1 ≤ stN fx fy fz tx ty tz := by unfold stN; omega
    have hN2 : stN fx fy fz tx ty tz ≤ 72 := by unfold stN; omega
    have eN : max (stN fx fy fz tx ty tz) 1 = stN fx fy fz tx ty tz := by omega
    rw [eN]
    have HSE := hide (str_end hs)
    have HSN := hide (fun i (hi : i < stN fx fy fz tx ty tz) => str_not hs hi)
    have HNB := hide (fun i (h1 : 1 ≤ i) (h2 : i ≤ stN fx fy fz tx ty tz) => nth_lo hs (i := i) (lo := 0) (hi' := 24) (by omega) h1)
    have w1 : IntKind.i64.wrap (tx - fx) = tx - fx := Go.IntWalk.i64_in _ ⟨by omega, by omega⟩
    have w2 : IntKind.i64.wrap (ty - fy) = ty - fy := Go.IntWalk.i64_in _ ⟨by omega, by omega⟩
    have w3 : IntKind.i64.wrap (tz - fz) = tz - fz := Go.IntWalk.i64_in _ ⟨by omega, by omega⟩
    obtain ⟨N, hN⟩ : ∃ N, stN fx fy fz tx ty tz = N := ⟨_, rfl⟩
    rw [hN] at hN1 hN2 HSE HSN HNB ⊢
    clear eN hN hs h0
    unfold plV
    go_enter Try.func44, Try.ntmps44
    go_upto_region 3 with fail
    generalize hWa : (w.alloc (.cells #[.int .i64 fx, .int .i64 fy, .int .i64 fz] 68)).alloc (.cells #[.int .i64 tx, .int .i64 ty, .int .i64 tz] 68) = Wa at *
    have HSW : Hid (Wa.heap.size = w.heap.size + 2) := hide (by rw [← hWa]; simp)
    have k0 := (unhide HV2).cell (m := 0) rfl
    have k1 := (unhide HV2).cell (m := 1) rfl
    have k2 := (unhide HV2).cell (m := 2) rfl
    have j0 := (unhide HV3).cell (m := 0) rfl
    have j1 := (unhide HV3).cell (m := 1) rfl
    have j2 := (unhide HV3).cell (m := 2) rfl
    have hlt1 := (unhide HV2).lt
    have hlt2 := (unhide HV3).lt
    clear hWa
    go_cut [5] (fun s5 wx => s5 = .pointer (some ⟨w.heap.size + 2, 0, none⟩) ∧ vb wx (w.heap.size + 2) 68 [.int .i64 (sg (tx - fx)), .int .i64 (sg (ty - fy)), .int .i64 (sg (tz - fz))] ∧ vb wx w.heap.size 68 [.int .i64 fx, .int .i64 fy, .int .i64 fz] ∧ vb wx (w.heap.size + 1) 68 [.int .i64 tx, .int .i64 ty, .int .i64 tz] ∧ Below w.heap.size w wx)
    case first =>
      go_region_held3 (fun wx => wx.cell? ⟨w.heap.size, 0, none⟩ = some (.int .i64 fx) ∧ wx.cell? ⟨w.heap.size, 1, none⟩ = some (.int .i64 fy) ∧ wx.cell? ⟨w.heap.size, 2, none⟩ = some (.int .i64 fz) ∧ wx.cell? ⟨w.heap.size + 1, 0, none⟩ = some (.int .i64 tx) ∧ wx.cell? ⟨w.heap.size + 1, 1, none⟩ = some (.int .i64 ty) ∧ wx.cell? ⟨w.heap.size + 1, 2, none⟩ = some (.int .i64 tz))
        (simp (maxDischargeDepth := 12) [go_sem, le1, lt1, *])
        (first
        | (go_at_call 71; refine (sgP_any _ _).mono ?_; rintro e w7 ⟨rfl, rfl⟩))
      all_goals
        go_wp2_with fail
        go_meet
        case rel => exact ⟨by rw [unhide HSW], by first | exact vb_new (w.alloc (.cells #[] 3)) 68 _ _ (by simp) | (rw [← unhide HSW]; exact vb_new Wa 68 [.int .i64 (sg (tx - fx)), .int .i64 (sg (ty - fy)), .int .i64 (sg (tz - fz))] _ rfl), (unhide HV2).bel (by repeat (first | exact Below.refl _ _ | refine ba ?_ _ | refine Below.drew ?_)), (unhide HV3).bel (by repeat (first | exact Below.refl _ _ | refine ba ?_ _ | refine Below.drew ?_)), by repeat (first | exact unhide HB | refine ba ?_ _ | refine Below.drew ?_)⟩
    case rest =>
      obtain ⟨rfl, hv5, hv2, hv3, hw⟩ := hcut
      have HV5 := hide hv5
      have HVa := hide hv2
      have HVb := hide hv3
      have HW := hide hw
      clear hv5 hv2 hv3 hw HV2 HV3 HB HSW k0 k1 k2 j0 j1 j2 hlt1 hlt2 he2
      go_wp2_with fail
      go_loopw [6] (fun z6 X => ∃ i : Nat, i ≤ N ∧ (i ≠ 0 → z6 ≠ .slice none 0 0) ∧ Row X (w.heap.size + 3) 68 3 z6 i (wayF fx fy fz tx ty tz i) ∧ vb X w.heap.size 68 [.int .i64 (nth fx tx i), .int .i64 (nth fy ty i), .int .i64 (nth fz tz i)] ∧ vb X (w.heap.size + 1) 68 [.int .i64 tx, .int .i64 ty, .int .i64 tz] ∧ vb X (w.heap.size + 2) 68 [.int .i64 (sg (tx - fx)), .int .i64 (sg (ty - fy)), .int .i64 (sg (tz - fz))] ∧ Below w.heap.size w X) (fun z6 _ => N - slen z6)
      case atStart => exact ⟨0, Nat.zero_le _, fun h => absurd rfl h, ⟨rfl, .inl ⟨rfl, rfl⟩⟩, by rw [nth_zero, nth_zero, nth_zero]; exact unhide HVa, unhide HVb, unhide HV5, unhide HW⟩
      case round =>
        obtain ⟨i, hi, hz6, hro, hva, hvb, hv5, hw⟩ := hrel
        have HZ6 := hide hz6
        have HRO := hide hro
        have HSL := hide hro.slen
        have k0 := hva.cell (m := 0) rfl
        have k1 := hva.cell (m := 1) rfl
        have k2 := hva.cell (m := 2) rfl
        have j0 := hvb.cell (m := 0) rfl
        have j1 := hvb.cell (m := 1) rfl
        have j2 := hvb.cell (m := 2) rfl
        have s0 := hv5.cell (m := 0) rfl
        have s1 := hv5.cell (m := 1) rfl
        have s2 := hv5.cell (m := 2) rfl
        have HVA := hide hva
        have HVB := hide hvb
        have HVC := hide hv5
        have HWW := hide hw
        have hn68 := fun W => neq68 (nth fx tx i) (nth fy ty i) (nth fz tz i) tx ty tz W
        clear hz6 hro hva hvb hv5 hw
        by_cases h : i < N
        · rw [decide_eq_false ((unhide HSN) i h)] at hn68
          simp only [Bool.not_false] at hn68
          obtain ⟨n1, n2, n3⟩ := (unhide HNB) (i + 1) (by omega) (by omega)
          have n1 := n1 ⟨hf1, hf2⟩ ⟨ht1, ht2⟩
          have n2 := n2 ⟨hf3, hf4⟩ ⟨ht3, ht4⟩
          have n3 := n3 ⟨hf5, hf6⟩ ⟨ht5, ht6⟩
          have HPL := hide (fun X => plP_any (nth fx tx i) (nth fy ty i) (nth fz tz i) (sg (tx - fx)) (sg (ty - fy)) (sg (tz - fz)) X (by rw [← nth_succ, ← nth_succ, ← nth_succ]; omega))
          rw [← nth_succ, ← nth_succ, ← nth_succ] at HPL
          have HWF : Hid (wayF fx fy fz tx ty tz (i + 1) = wayF fx fy fz tx ty tz i ++ [nth fx tx (i + 1), nth fy ty (i + 1), nth fz tz (i + 1)]) := hide rfl
          obtain ⟨x1, hx1⟩ : ∃ x1, nth fx tx (i + 1) = x1 := ⟨_, rfl⟩
          obtain ⟨x2, hx2⟩ : ∃ x2, nth fy ty (i + 1) = x2 := ⟨_, rfl⟩
          obtain ⟨x3, hx3⟩ : ∃ x3, nth fz tz (i + 1) = x3 := ⟨_, rfl⟩
          rw [hx1, hx2, hx3] at HPL HWF
          have HX := hide (And.intro hx1 (And.intro hx2 hx3))
          unfold plV at HPL
          clear n1 n2 n3 hx1 hx2 hx3
          go_wp2_with fail
          refine (unhide HPL _).mono ?_
          rintro e W2 ⟨rfl, hb2⟩
          have va := (unhide HVA).bel hb2
          have k0 := va.cell (m := 0) rfl
          have k1 := va.cell (m := 1) rfl
          have k2 := va.cell (m := 2) rfl
          have kf := va.frozen
          have HVA2 := hide va
          have HVB2 := hide ((unhide HVB).bel hb2)
          have HVC2 := hide ((unhide HVC).bel hb2)
          have HRO2 := hide ((unhide HRO).below hb2)
          have HWW2 := hide (bc (unhide HWW) hb2)
          clear hb2 va s0 s1 s2 j0 j1 j2 hn68
          go_wp2_with (at_builtin; refine unhide ?_)
          have HA3 : Hid (vb (((W2.setCell ⟨w.heap.size, 0, none⟩ (.int .i64 x1)).setCell ⟨w.heap.size, 1, none⟩ (.int .i64 x2)).setCell ⟨w.heap.size, 2, none⟩ (.int .i64 x3)) w.heap.size 68 [.int .i64 x1, .int .i64 x2, .int .i64 x3]) := hide ((((unhide HVA2).set 0 _).set 1 _).set 2 _)
          have HB3 : Hid (vb (((W2.setCell ⟨w.heap.size, 0, none⟩ (.int .i64 x1)).setCell ⟨w.heap.size, 1, none⟩ (.int .i64 x2)).setCell ⟨w.heap.size, 2, none⟩ (.int .i64 x3)) (w.heap.size + 1) 68 [.int .i64 tx, .int .i64 ty, .int .i64 tz]) := hide ((((unhide HVB2).ne (by omega)).ne (by omega)).ne (by omega))
          have HC3 : Hid (vb (((W2.setCell ⟨w.heap.size, 0, none⟩ (.int .i64 x1)).setCell ⟨w.heap.size, 1, none⟩ (.int .i64 x2)).setCell ⟨w.heap.size, 2, none⟩ (.int .i64 x3)) (w.heap.size + 2) 68 [.int .i64 (sg (tx - fx)), .int .i64 (sg (ty - fy)), .int .i64 (sg (tz - fz))]) := hide ((((unhide HVC2).ne (by omega)).ne (by omega)).ne (by omega))
          have HR3 : Hid (Row (((W2.setCell ⟨w.heap.size, 0, none⟩ (.int .i64 x1)).setCell ⟨w.heap.size, 1, none⟩ (.int .i64 x2)).setCell ⟨w.heap.size, 2, none⟩ (.int .i64 x3)) (w.heap.size + 3) 68 3 u6 i (wayF fx fy fz tx ty tz i)) := hide ((unhide HRO2).kept' (fun b hb => by
            have h1 := (World.ownsRow.lt (unhide HRO2) b hb).1
            have hne : b ≠ w.heap.size := by omega
            exact (Below.heap_setCell _ _ _ _ hne).trans ((Below.heap_setCell _ _ _ _ hne).trans (Below.heap_setCell _ _ _ _ hne))))
          have HW3 : Hid (Below w.heap.size w (((W2.setCell ⟨w.heap.size, 0, none⟩ (.int .i64 x1)).setCell ⟨w.heap.size, 1, none⟩ (.int .i64 x2)).setCell ⟨w.heap.size, 2, none⟩ (.int .i64 x3))) := hide (Below.setCell (Below.setCell (Below.setCell (unhide HWW2) (Nat.le_refl _) _) (Nat.le_refl _) _) (Nat.le_refl _) _)
          have HSZ : Hid (w.heap.size + 3 ≤ (((W2.setCell ⟨w.heap.size, 0, none⟩ (.int .i64 x1)).setCell ⟨w.heap.size, 1, none⟩ (.int .i64 x2)).setCell ⟨w.heap.size, 2, none⟩ (.int .i64 x3)).heap.size) := hide ((unhide HC3).lt)
          have HSW3 : Hid (W2.heap.size = (((W2.setCell ⟨w.heap.size, 0, none⟩ (.int .i64 x1)).setCell ⟨w.heap.size, 1, none⟩ (.int .i64 x2)).setCell ⟨w.heap.size, 2, none⟩ (.int .i64 x3)).heap.size) := hide (by simp [World.setCell])
          generalize ((W2.setCell ⟨w.heap.size, 0, none⟩ (.int .i64 x1)).setCell ⟨w.heap.size, 1, none⟩ (.int .i64 x2)).setCell ⟨w.heap.size, 2, none⟩ (.int .i64 x3) = W3 at *
          clear HVA2 HVB2 HVC2 HRO2 HWW2 k0 k1 k2 kf
          refine hide ?_
          refine wpList_append_own _ rfl _ _ 72 rfl (w.heap.size + 3) 68 iP _ 3 24 Try.underlying72 hi1 hy0 hy1 hy2 rfl (by decide) _ i ((wayF fx fy fz tx ty tz i).map (Value.int .i64)) rfl ((unhide HR3).alloc _) _ 1 1 ([x1, x2, x3].map (Value.int .i64)) rfl rfl (by first | exact news_cells _ _ (unhide HSW3) | exact news_cells _ _ rfl) ints_one (by unfold maxLen; omega) (by omega) (by first | (have := unhide HSZ; omega) | (have := unhide HSZ; simp; omega)) ?_
          intro v1 w1 hown' hgrow hvn1
          have R1 := own_more (wr := W3) (news := [x1, x2, x3]) (by repeat (first | exact Below.refl _ _ | refine Below.alloc ?_ (by first | exact unhide HSZ | (simp; exact unhide HSZ)) _ | refine Below.drew ?_)) (by first | exact Nat.le_trans (unhide HSZ) (by simp) | (have := unhide HSZ; simp; omega) | (have := unhide HSZ; omega)) (unhide HR3) hown' hgrow
          have HR6 := hide R1.1
          have HS6 := hide R1.1.slen
          have HN6 : Hid (v1 ≠ .slice none 0 0) := hide (fun e => by have := (hvn1.1 e).2; omega)
          have HA6 := hide ((unhide HA3).below R1.2 (by omega))
          have HB6 := hide ((unhide HB3).below R1.2 (by omega))
          have HC6 := hide ((unhide HC3).below R1.2 (by omega))
          have HW6 := hide ((unhide HW3).trans (R1.2.mono (by omega)))
          clear hown' hgrow hvn1 R1
          go_wp2_with fail
          go_roundw
          case rel =>
            obtain ⟨e1, e2, e3⟩ := unhide HX
            exact ⟨i + 1, h, fun _ => unhide HN6, by rw [unhide HWF]; exact unhide HR6, by rw [e1, e2, e3]; exact unhide HA6, unhide HB6, unhide HC6, unhide HW6⟩
          case measure =>
            have h1 := unhide HS6
            have h2 := unhide HSL
            show N - slen v1 < N - slen u6
            omega
        · have eN : i = N := by omega
          subst eN
          rw [decide_eq_true (unhide HSE)] at hn68
          simp only [Bool.not_true] at hn68
          go_wp2_with fail
          go_ret
          exact ⟨⟨_, rfl, (unhide HZ6) (by omega), (unhide HRO).mono (by omega)⟩, unhide HWW⟩
end Go.Proofs.Ytbjljofgpbecbaa
