/-
  The program's pieces of rows under a tool.
-/
import Derived.Test.YtjhldjojkaphkaaFdRows
import Derived.Test.YtjhldjojkaphkaaTpP
import Derived.Test.YtjhldjojkaphkaaRowX
import Derived.Lib.MinMax
namespace Go.Proofs.Ytjhldjojkaphkaa
open Go.ChangeShapes Go.WideShapes Go.ChangeAt Go.RowKit
set_option linter.unusedVariables false
set_option linter.unusedSimpArgs false

theorem asd_stop {r : Nat} (hr : r ≤ 3) (k : Int) (a : Nat) (ha : a ≤ 3) (h1 : a = 0 ∨ (a : Int) * a + k * k ≤ (r : Int) * r) (h2 : ¬ ((a : Int) + 1) * ((a : Int) + 1) + k * k ≤ (r : Int) * r) : a = asd r k := by
  have h0 := sq_nn k
  have h9 := rr_cases hr
  unfold asd
  have hc : a = 0 ∨ a = 1 ∨ a = 2 ∨ a = 3 := by omega
  generalize k * k = kk at *
  generalize (r : Int) * r = rr at *
  rcases hc with rfl | rfl | rfl | rfl <;> simp at h1 h2 <;> (split <;> (try split) <;> (try split) <;> omega)
set_option maxHeartbeats 1000000 in
theorem asP_any (r : Nat) (k : Int) (w : World) (hr : r ≤ 3) (hk1 : -3 ≤ k) (hk2 : k ≤ 3) :
    Calls Try.prog 92 #[.int .i64 (r : Int), .int .i64 k] w fun e w' => e = .returned (.int .i64 (asd r k : Int)) ∧ w' = w := by
  have HS := hide (fun a h1 h2 h3 => asd_stop (r := r) hr k a h1 h2 h3)
  have h0 := sq_nn k
  have h9 := rr_cases hr
  have hkk : k * k ≤ 9 := by
    have h : 0 ≤ (3 - k) * (3 + k) := Int.mul_nonneg (by omega) (by omega)
    have e : (3 - k) * (3 + k) = 9 - k * k := by grind
    omega
  have H9 := hide h9
  have hr9 : (r : Int) * r ≤ 9 := by omega
  have hr0 : 0 ≤ (r : Int) * r := by omega
  have wr1 : IntKind.i64.wrap ((r : Int) * r) = (r : Int) * r := Go.IntWalk.i64_in _ ⟨by omega, by omega⟩
  have wk1 : IntKind.i64.wrap (k * k) = k * k := Go.IntWalk.i64_in _ ⟨by omega, by omega⟩
  clear h9
  go_enter Try.func92, Try.ntmps92
  go_wp2_with fail
  go_loopw [5] (fun s W => ∃ a : Nat, s = .int .i64 (a : Int) ∧ a ≤ 3 ∧ (a = 0 ∨ (a : Int) * a + k * k ≤ (r : Int) * r) ∧ W = w) (fun s _ => 4 - (intOf s).toNat)
  case atStart => exact ⟨0, rfl, by omega, .inl rfl, rfl⟩
  case round =>
    obtain ⟨a, rfl, ha, h1, rfl⟩ := hrel
    have H1 := hide h1
    have a0 : (0 : Int) ≤ (a : Int) := Int.natCast_nonneg _
    have a3 : (a : Int) ≤ 3 := by omega
    have HQ : Hid (((a : Int) + 1) * ((a : Int) + 1) = (a : Int) * a + 2 * a + 1) := hide (by grind)
    have HQ0 : Hid ((a : Int) * a = 0 ∧ a = 0 ∨ (a : Int) * a = 1 ∧ a = 1 ∨ (a : Int) * a = 4 ∧ a = 2 ∨ (a : Int) * a = 9 ∧ a = 3) := hide (by
      have : a = 0 ∨ a = 1 ∨ a = 2 ∨ a = 3 := by omega
      rcases this with rfl | rfl | rfl | rfl <;> simp)
    have q1 : 0 ≤ ((a : Int) + 1) * ((a : Int) + 1) := sq_nn _
    have q2 : ((a : Int) + 1) * ((a : Int) + 1) ≤ 16 := by have := unhide HQ; have := unhide HQ0; omega
    have w1 : IntKind.i64.wrap ((a : Int) + 1) = (a : Int) + 1 := Go.IntWalk.i64_in _ ⟨by omega, by omega⟩
    have w2 : IntKind.i64.wrap (((a : Int) + 1) * ((a : Int) + 1)) = ((a : Int) + 1) * ((a : Int) + 1) := Go.IntWalk.i64_in _ ⟨by omega, by omega⟩
    have w3 : IntKind.i64.wrap (((a : Int) + 1) * ((a : Int) + 1) + k * k) = ((a : Int) + 1) * ((a : Int) + 1) + k * k := Go.IntWalk.i64_in _ ⟨by omega, by omega⟩
    clear h1
    by_cases h : ((a : Int) + 1) * ((a : Int) + 1) + k * k ≤ (r : Int) * r
    · have t := decide_eq_true h
      have HA : Hid (a + 1 ≤ 3) := hide (by have := unhide HQ; have := unhide HQ0; omega)
      go_wp2_with fail
      go_roundw
      case rel => exact ⟨a + 1, by simp, unhide HA, .inr (by rw [Int.natCast_add]; exact h), by first | rfl | trivial⟩
      case measure => simp only [intOf]; have := unhide HA; omega
    · have t := decide_eq_false h
      have HE := hide ((unhide HS) a ha (unhide H1) (by omega))
      go_wp2_with fail
      go_ret
      exact ⟨by rw [← unhide HE]; first | done | rfl, by first | rfl | trivial⟩
theorem own_bel {w w' : World} {B t k n : Nat} {v : Value} {xs : List Value} (h : w.ownsRow B t k v n xs) (hb : Below w.heap.size w w') : w'.ownsRow B t k v n xs := by
  refine ⟨h.1, ?_⟩
  rcases h.2 with h1 | ⟨g, cap, cur, hv, hB, hh, r⟩
  · exact .inl h1
  · exact .inr ⟨g, cap, cur, hv, hB, (hb.block g (Array.getElem?_eq_some_iff.1 hh).1).trans hh, r⟩
theorem own_mono {w : World} {B B' t k n : Nat} {v : Value} {xs : List Value} (h : w.ownsRow B t k v n xs) (hb : B' ≤ B) : w.ownsRow B' t k v n xs := by
  refine ⟨h.1, ?_⟩
  rcases h.2 with h1 | ⟨g, cap, cur, hv, hB, r⟩
  · exact .inl h1
  · exact .inr ⟨g, cap, cur, hv, Nat.le_trans hb hB, r⟩
/-- a piece as a slice -/
def pcV (g po : Nat) (p : Nat × Nat) : Value := .slice (some ⟨g, po + p.1, none⟩) p.2 p.2
theorem sl_info : (Try.prog.info? 23).map (fun i => (i.zero, i.size, i.bytes)) = some (some (.slice none 0 0), 1, 24) := by kernel_rfl
/-- pieces that a call made a row of -/
def Pcs (w : World) (B : Nat) (v : Value) (g po : Nat) (ps : List (Nat × Nat)) : Prop := w.ownsRow B 23 1 v ps.length (ps.map (pcV g po))
theorem pcs_one {g po : Nat} {ps : List (Nat × Nat)} : ∀ u ∈ ps.map (pcV g po), u.oneCell' = true := by
  intro u hu
  obtain ⟨x, _, rfl⟩ := List.mem_map.1 hu
  rfl
theorem pieces_take {W H r x y : Nat} (i : Nat) (hi : i < vn H r y) : (pieces W H r x y).take (i + 1) = (pieces W H r x y).take i ++ [piece W r x y (vf r y + i)] := by
  unfold pieces
  rw [← List.map_take, ← List.map_take, List.take_add_one, List.map_append]
  congr 1
  rw [List.getElem?_range' hi]
  simp
theorem pieces_len (W H r x y : Nat) : (pieces W H r x y).length = vn H r y := by simp [pieces]
set_option maxHeartbeats 2000000 in
set_option maxRecDepth 100000 in
theorem unP_any (W H r x y : Nat) (g po n c : Nat) (w : World) (hW : W ≤ 24) (hH : H ≤ 24) (hr : r ≤ 3) (hx : x < W) (hy : y < H) (hn : n = W * H) (hc : n ≤ c) (hm : c ≤ 9223372036854775807) :
    Calls Try.prog 70 #[fldV (W : Int) (H : Int) (some ⟨g, po, none⟩) n c, .int .i64 (r : Int), .int .i64 (x : Int), .int .i64 (y : Int)] w fun e w' => (∃ v, e = .returned v ∧ v ≠ .slice none 0 0 ∧ Pcs w' w.heap.size v g po (pieces W H r x y)) ∧ Below w.heap.size w w' := by
  have HB := hide (ba (Below.refl w.heap.size w) (.cells #[.int .i64 (W : Int), .int .i64 (H : Int), .slice (some ⟨g, po, none⟩) n c] 25))
  have HV := hide (vb_new w 25 [.int .i64 (W : Int), .int .i64 (H : Int), .slice (some ⟨g, po, none⟩) n c] w.heap.size rfl)
  have HR := hide (fun v X (hv : v < H) => rwP_any W H v g po n c X (by omega) hW hH hv hn hc hm)
  have HA := hide (fun k X h1 h2 => asP_any r k X hr h1 h2)
  have HPL := hide (pieces_len W H r x y)
  obtain ⟨iP, hi1, hy0, hy1, hy2⟩ := info_parts sl_info
  have ws : IntKind.i64.wrap ((y : Int) - (r : Int)) = (y : Int) - (r : Int) := Go.IntWalk.i64_in _ ⟨by omega, by omega⟩
  have wa : IntKind.i64.wrap ((y : Int) + (r : Int)) = (y : Int) + (r : Int) := Go.IntWalk.i64_in _ ⟨by omega, by omega⟩
  have wh : IntKind.i64.wrap ((H : Int) - 1) = (H : Int) - 1 := Go.IntWalk.i64_in _ ⟨by omega, by omega⟩
  have HN := hide hn
  have hvn : vf r y + vn H r y = min (y + r) (H - 1) + 1 := by unfold vf vn; omega
  have hv1 : 1 ≤ vn H r y := by unfold vn; omega
  have m0 : max (0 : Int) ((y : Int) - (r : Int)) = ((vf r y : Nat) : Int) := by unfold vf; omega
  have m1 : min ((H : Int) - 1) ((y : Int) + (r : Int)) = ((vf r y + vn H r y - 1 : Nat) : Int) := by omega
  unfold fldV at *
  have HVN := hide hvn
  have HV1 := hide hv1
  have HX := hide (show ∀ v, uf r x y v < ue W r x y v ∧ ue W r x y v ≤ W from fun v => piece_ok hx)
  clear hn hvn hv1
  go_enter Try.func70, Try.ntmps70
  go_wp2_with fail
  go_loopw [9, 10] (fun z9 z X => ∃ i : Nat, z = .int .i64 ((vf r y + i : Nat) : Int) ∧ i ≤ vn H r y ∧ X.ownsRow (w.heap.size + 1) 23 1 z9 i (((pieces W H r x y).take i).map (pcV g po)) ∧ (i ≠ 0 → z9 ≠ .slice none 0 0) ∧ vb X w.heap.size 25 [.int .i64 (W : Int), .int .i64 (H : Int), .slice (some ⟨g, po, none⟩) n c] ∧ Below w.heap.size w X) (fun _ z _ => vf r y + vn H r y - (intOf z).toNat)
  case atStart => exact ⟨0, rfl, Nat.zero_le _, ⟨rfl, .inl ⟨rfl, rfl⟩⟩, fun h => absurd rfl h, unhide HV, unhide HB⟩
  case round =>
    obtain ⟨i, rfl, hi, hown, hz9, hv, hw⟩ := hrel
    have HO := hide hown
    have HZ9 := hide hz9
    have HVV := hide hv
    have HWW := hide hw
    have k0 := hv.cell (m := 0) rfl
    have k1 := hv.cell (m := 1) rfl
    have k2 := hv.cell (m := 2) rfl
    have HSZ : Hid (w.heap.size + 1 ≤ wr.heap.size) := hide (hv.lt)
    clear hown hv hw hz9
    by_cases h : i < vn H r y
    · have HPT := hide (pieces_take (W := W) (x := x) i h)
      have hvH : vf r y + i < H := by have := unhide HVN; have := unhide HV1; omega
      have hvy : vf r y + i ≤ y + r := by have := unhide HVN; have := unhide HV1; omega
      have hvy2 : y ≤ vf r y + i + r := by unfold vf; omega
      have hvy3 : vf r y + i < 24 := by omega
      have d1 : decide (((vf r y + i : Nat) : Int) ≤ ((vf r y + vn H r y - 1 : Nat) : Int)) = true := decide_eq_true (by omega)
      have d2 : ((vf r y : Nat) : Int) + (i : Int) ≤ ((vf r y + vn H r y - 1 : Nat) : Int) := by omega
      have d3 := decide_eq_true d2
      have HRv := hide (fun X => (unhide HR) (vf r y + i) X hvH)
      have HPO := hide ((unhide HX) (vf r y + i))
      have HMS : Hid (vf r y + vn H r y - (vf r y + (i + 1)) < vf r y + vn H r y - (vf r y + i)) := hide (by omega)
      have HPE : Hid (piece W r x y (vf r y + i) = ((vf r y + i) * W + uf r x y (vf r y + i), ue W r x y (vf r y + i) - uf r x y (vf r y + i))) := hide rfl
      have HUF : Hid (uf r x y (vf r y + i) = x - asd r (((vf r y + i : Nat) : Int) - y)) := hide rfl
      have HUE : Hid (ue W r x y (vf r y + i) = min W (x + asd r (((vf r y + i : Nat) : Int) - y) + 1)) := hide rfl
      have HAL := hide (asd_le r (((vf r y + i : Nat) : Int) - y))
      have HAv := hide (fun X => (unhide HA) (((vf r y + i : Nat) : Int) - y) X (by omega) (by omega))
      have wk : IntKind.i64.wrap (((vf r y + i : Nat) : Int) - (y : Int)) = ((vf r y + i : Nat) : Int) - (y : Int) := Go.IntWalk.i64_in _ ⟨by omega, by omega⟩
      have wi : IntKind.i64.wrap (((vf r y + i : Nat) : Int) + 1) = ((vf r y + (i + 1) : Nat) : Int) := by
        rw [show ((vf r y + (i + 1) : Nat) : Int) = ((vf r y + i : Nat) : Int) + 1 by omega]
        exact Go.IntWalk.i64_in _ ⟨by omega, by omega⟩
      obtain ⟨a, ea⟩ : ∃ a, asd r (((vf r y + i : Nat) : Int) - y) = a := ⟨_, rfl⟩
      obtain ⟨f, ef⟩ : ∃ f, uf r x y (vf r y + i) = f := ⟨_, rfl⟩
      obtain ⟨e, ee⟩ : ∃ e, ue W r x y (vf r y + i) = e := ⟨_, rfl⟩
      rw [ea] at HUF HUE HAL HAv
      rw [ef] at HPO HPE HUF
      rw [ee] at HPO HPE HUE
      clear ea ef ee
      have ha := unhide HAL
      have hf := unhide HUF
      have he := unhide HUE
      obtain ⟨p1, p2⟩ := unhide HPO
      have wx : IntKind.i64.wrap ((x : Int) - (a : Int)) = (x : Int) - (a : Int) := Go.IntWalk.i64_in _ ⟨by omega, by omega⟩
      have wy : IntKind.i64.wrap ((x : Int) + (a : Int)) = (x : Int) + (a : Int) := Go.IntWalk.i64_in _ ⟨by omega, by omega⟩
      have wz : IntKind.i64.wrap ((x : Int) + (a : Int) + 1) = (x : Int) + (a : Int) + 1 := Go.IntWalk.i64_in _ ⟨by omega, by omega⟩
      have n1 : max (0 : Int) ((x : Int) - (a : Int)) = (f : Int) := by omega
      have n2 : min (W : Int) ((x : Int) + (a : Int) + 1) = (e : Int) := by omega
      have b0 : (0 : Int) ≤ (f : Int) := Int.natCast_nonneg _
      have b1 : (f : Int) ≤ (e : Int) := by omega
      have b2 : (e : Int) ≤ (W : Int) := by omega
      have b3 : f ≤ e := by omega
      have z1 : ¬ e = f := by omega
      have z2 : ¬ e - f = 0 := by omega
      clear hf he hi h hvy hvy2
      go_wp2_with fail
      refine (unhide HAv _).mono ?_
      rintro _ w' ⟨rfl, rfl⟩
      go_wp2_with fail
      go_region
      have k0d : w'.drew.cell? ⟨w.heap.size, 0, none⟩ = some (.int .i64 (W : Int)) := k0
      have k1d : w'.drew.cell? ⟨w.heap.size, 1, none⟩ = some (.int .i64 (H : Int)) := k1
      have k2d : w'.drew.cell? ⟨w.heap.size, 2, none⟩ = some (.slice (some ⟨g, po, none⟩) n c) := k2
      have HOd : Hid (w'.drew.ownsRow (w.heap.size + 1) 23 1 u9 i (((pieces W H r x y).take i).map (pcV g po))) := hide (unhide HO)
      have HVd : Hid (vb w'.drew w.heap.size 25 [.int .i64 (W : Int), .int .i64 (H : Int), .slice (some ⟨g, po, none⟩) n c]) := hide (unhide HVV)
      have HWd : Hid (Below w.heap.size w w'.drew) := hide (unhide HWW).drew
      have HSd : Hid (w.heap.size + 1 ≤ w'.drew.heap.size) := hide (unhide HSZ)
      generalize w'.drew = Wd at *
      clear k0 k1 k2 HO HVV HWW HSZ
      go_wp2_with fail
      refine (unhide HRv _).mono ?_
      rintro _ W2 ⟨rfl, hb2⟩
      have HO2 : Hid (W2.ownsRow (w.heap.size + 1) 23 1 u9 i (((pieces W H r x y).take i).map (pcV g po))) := hide (own_bel (unhide HOd) hb2)
      have HV2 := hide ((unhide HVd).bel hb2)
      have HW2 := hide (bc (unhide HWd) hb2)
      have HS2 := hide (Nat.le_trans (unhide HSd) hb2.size)
      clear hb2
      go_wp2_with (at_builtin; refine unhide ?_)
      refine hide ?_
      refine wpList_append_own _ rfl _ _ 103 rfl (w.heap.size + 1) 23 iP _ 1 24 Try.underlying103 hi1 hy0 hy1 hy2 rfl (by decide) _ i (((pieces W H r x y).take i).map (pcV g po)) rfl ((unhide HO2).alloc _) _ 1 1 [.slice (some ⟨g, po + (vf r y + i) * W + f, none⟩) (e - f) (e - f)] rfl rfl (by first | exact news_cells _ _ rfl | exact news_cells _ _ (by simp)) (fun u hu => by rw [List.mem_singleton] at hu; subst hu; rfl) (by unfold maxLen; omega) (by omega) (by first | (have := unhide HS2; omega) | (have := unhide HS2; simp; omega)) ?_
      intro v1 w1 hown' hgrow hvn1
      have hB1 : Below (w.heap.size + 1) W2 w1 := Below.grown (ba (Below.refl _ _) _ |>.mono (unhide HS2)) hgrow (by have := unhide HS2; simp; omega) (fun j hj => (World.ownsRow.lt (unhide HO2) j hj).1)
      have HR1 : Hid (w1.ownsRow (w.heap.size + 1) 23 1 v1 (i + 1) (((pieces W H r x y).take (i + 1)).map (pcV g po))) := hide (by
        rw [unhide HPT, List.map_append, unhide HPE]
        show w1.ownsRow _ _ _ _ _ (_ ++ [.slice (some ⟨g, po + ((vf r y + i) * W + f), none⟩) (e - f) (e - f)])
        rw [← Nat.add_assoc]
        exact hown')
      have HN1 : Hid (v1 ≠ .slice none 0 0) := hide (fun e => by have := (hvn1.1 e).2; omega)
      have HV3 := hide ((unhide HV2).below hB1 (Nat.lt_succ_self _))
      have HW3 := hide ((unhide HW2).trans (hB1.mono (Nat.le_succ _)))
      clear hown' hgrow hvn1 hB1
      go_wp2_with fail
      go_roundw
      case rel => exact ⟨i + 1, by first | rfl | simp, by have := unhide HMS; omega, unhide HR1, fun _ => unhide HN1, unhide HV3, unhide HW3⟩
      case measure => simp only [intOf]; have := unhide HMS; omega
    · have d1 : decide (((vf r y + i : Nat) : Int) ≤ ((vf r y + vn H r y - 1 : Nat) : Int)) = false := decide_eq_false (by have := unhide HV1; omega)
      obtain rfl : i = vn H r y := by omega
      have HE : Hid ((pieces W H r x y).take (vn H r y) = pieces W H r x y) := hide (List.take_of_length_le (by rw [unhide HPL]; omega))
      have d2 : ¬ (((vf r y : Nat) : Int) + ((vn H r y : Nat) : Int) ≤ ((vf r y + vn H r y - 1 : Nat) : Int)) := by have := unhide HV1; omega
      have d3 := decide_eq_false d2
      go_wp2_with fail
      go_ret
      refine ⟨⟨_, rfl, (unhide HZ9) (by have := unhide HV1; omega), ?_⟩, unhide HWW⟩
      unfold Pcs
      have h1 := unhide HO
      rw [unhide HE] at h1
      rw [unhide HPL]
      exact own_mono h1 (Nat.le_succ _)
theorem iat {T : List Int} {w : World} {g po : Nat} (h : IntsAt w g po T) {i : Nat} (hi : i < T.length) : w.cell? ⟨g, po + i, none⟩ = some (.int .i64 (tp T i)) := h i _ (tp_at hi)
theorem mxP_any (g po o l c : Nat) (T : List Int) (w : World) (hT : IntsAt w g po T) (hl : 0 < l) (ho : o + l ≤ T.length) (hb : T.length ≤ 576) :
    Calls Try.prog 71 #[.slice (some ⟨g, po + o, none⟩) l c] w fun e w' => e = .returned (.int .i64 ((List.range' (o + 1) (l - 1)).foldl (fun m i => max m (tp T i)) (tp T o))) ∧ Same w w' := by
  have HT := hide hT
  have c0 := iat hT (i := o) (by omega)
  have d0 : decide ((l : Int) < 1) = false := decide_eq_false (by omega)
  have b0 : (0 : Int) < (l : Int) := by omega
  have HO := hide ho
  have hl2 : l ≤ 576 := by omega
  clear hT ho
  go_enter Try.func71, Try.ntmps71
  go_wp2_with fail
  clear c0
  go_loopw [3, 4] (fun zm z X => ∃ i : Nat, z = .int .i64 (i : Int) ∧ 1 ≤ i ∧ i ≤ l ∧ zm = .int .i64 ((List.range' (o + 1) (i - 1)).foldl (fun m i => max m (tp T i)) (tp T o)) ∧ Same w X) (fun _ z _ => l - (intOf z).toNat)
  case atStart => exact ⟨1, rfl, by omega, by omega, rfl, Same.refl _⟩
  case round =>
    obtain ⟨i, rfl, hi1, hi, rfl, hw⟩ := hrel
    have HW := hide hw
    by_cases h : i < l
    · have i1 : (i : Int) < (l : Int) := by omega
      have i0 : (0 : Int) ≤ (i : Int) := Int.natCast_nonneg _
      have iz : decide ((i : Int) < (l : Int)) = true := decide_eq_true i1
      have c1 := iat (unhide HT) (i := o + i) (by have := unhide HO; omega)
      rw [← hw.cell, ← Nat.add_assoc] at c1
      have HN : Hid ((List.range' (o + 1) (i + 1 - 1)).foldl (fun m i => max m (tp T i)) (tp T o) = max ((List.range' (o + 1) (i - 1)).foldl (fun m i => max m (tp T i)) (tp T o)) (tp T (o + i))) := hide (by
        rw [show i + 1 - 1 = (i - 1) + 1 by omega, List.range'_concat, List.foldl_append]
        simp only [List.foldl_cons, List.foldl_nil, Nat.one_mul]
        rw [show o + 1 + (i - 1) = o + i by omega])
      generalize (List.range' (o + 1) (i - 1)).foldl (fun m i => max m (tp T i)) (tp T o) = m at *
      generalize tp T (o + i) = x at *
      clear hw
      go_wp2_with fail
      first | go_region | skip
      go_wp2_with fail
      go_roundw
      case rel => exact ⟨i + 1, by simp, by omega, h, by rw [unhide HN]; first | done | rfl, by repeat (first | exact unhide HW | refine Same.drew ?_)⟩
      case measure => simp only [intOf]; omega
    · have iz : decide ((i : Int) < (l : Int)) = false := decide_eq_false (by omega)
      obtain rfl : i = l := by omega
      clear hw
      go_wp2_with fail
      go_ret
      exact ⟨rfl, unhide HW⟩
theorem mnP_any (g po o l c : Nat) (T : List Int) (w : World) (hT : IntsAt w g po T) (hl : 0 < l) (ho : o + l ≤ T.length) (hb : T.length ≤ 576) :
    Calls Try.prog 85 #[.slice (some ⟨g, po + o, none⟩) l c] w fun e w' => e = .returned (.int .i64 ((List.range' (o + 1) (l - 1)).foldl (fun m i => min m (tp T i)) (tp T o))) ∧ Same w w' := by
  have HT := hide hT
  have c0 := iat hT (i := o) (by omega)
  have d0 : decide ((l : Int) < 1) = false := decide_eq_false (by omega)
  have b0 : (0 : Int) < (l : Int) := by omega
  have HO := hide ho
  have hl2 : l ≤ 576 := by omega
  clear hT ho
  go_enter Try.func85, Try.ntmps85
  go_wp2_with fail
  clear c0
  go_loopw [3, 4] (fun zm z X => ∃ i : Nat, z = .int .i64 (i : Int) ∧ 1 ≤ i ∧ i ≤ l ∧ zm = .int .i64 ((List.range' (o + 1) (i - 1)).foldl (fun m i => min m (tp T i)) (tp T o)) ∧ Same w X) (fun _ z _ => l - (intOf z).toNat)
  case atStart => exact ⟨1, rfl, by omega, by omega, rfl, Same.refl _⟩
  case round =>
    obtain ⟨i, rfl, hi1, hi, rfl, hw⟩ := hrel
    have HW := hide hw
    by_cases h : i < l
    · have i1 : (i : Int) < (l : Int) := by omega
      have i0 : (0 : Int) ≤ (i : Int) := Int.natCast_nonneg _
      have iz : decide ((i : Int) < (l : Int)) = true := decide_eq_true i1
      have c1 := iat (unhide HT) (i := o + i) (by have := unhide HO; omega)
      rw [← hw.cell, ← Nat.add_assoc] at c1
      have HN : Hid ((List.range' (o + 1) (i + 1 - 1)).foldl (fun m i => min m (tp T i)) (tp T o) = min ((List.range' (o + 1) (i - 1)).foldl (fun m i => min m (tp T i)) (tp T o)) (tp T (o + i))) := hide (by
        rw [show i + 1 - 1 = (i - 1) + 1 by omega, List.range'_concat, List.foldl_append]
        simp only [List.foldl_cons, List.foldl_nil, Nat.one_mul]
        rw [show o + 1 + (i - 1) = o + i by omega])
      generalize (List.range' (o + 1) (i - 1)).foldl (fun m i => min m (tp T i)) (tp T o) = m at *
      generalize tp T (o + i) = x at *
      clear hw
      go_wp2_with fail
      first | go_region | skip
      go_wp2_with fail
      go_roundw
      case rel => exact ⟨i + 1, by simp, by omega, h, by rw [unhide HN]; first | done | rfl, by repeat (first | exact unhide HW | refine Same.drew ?_)⟩
      case measure => simp only [intOf]; omega
    · have iz : decide ((i : Int) < (l : Int)) = false := decide_eq_false (by omega)
      obtain rfl : i = l := by omega
      clear hw
      go_wp2_with fail
      go_ret
      exact ⟨rfl, unhide HW⟩
end Go.Proofs.Ytjhldjojkaphkaa
