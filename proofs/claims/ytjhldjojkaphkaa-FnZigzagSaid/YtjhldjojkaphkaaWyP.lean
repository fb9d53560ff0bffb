/-
  The way on from a corner.
-/
import Derived.Test.YtjhldjojkaphkaaWy1
namespace Go.Proofs.Ytjhldjojkaphkaa
open Go.ChangeShapes Go.WideShapes Go.ChangeAt Go.RowKit
set_option linter.unusedVariables false
set_option linter.unusedSimpArgs false

theorem q_left {d : Nat} (h : d < 4) : min 0 (wx d + wx (lf d)) = qx d ∧ min 0 (wy d + wy (lf d)) = qy d := by
  rcases d_cases h with rfl | rfl | rfl | rfl <;> (simp [wx, wy, qx, qy, lf]; try omega)
theorem q_right {d : Nat} (h : d < 4) : min 0 (wx d + wx (rt d)) = qx (rt d) ∧ min 0 (wy d + wy (rt d)) = qy (rt d) := by
  rcases d_cases h with rfl | rfl | rfl | rfl <;> (simp [wx, wy, qx, qy, rt]; try omega)
set_option maxHeartbeats 4000000 in
theorem wyP_any (W H n c g po : Nat) (T : List Int) (x y : Int) (d : Nat) (z : Int) (w : World) (hW1 : 1 ≤ W) (hW : W ≤ 24) (hH1 : 1 ≤ H) (hH : H ≤ 24) (hn : n = W * H) (hd : d < 4) (hx : 0 ≤ x ∧ x ≤ 24) (hy : 0 ≤ y ∧ y ≤ 24) (hF : Fd w g po n c T) :
    Calls Try.prog 89 #[fldV (W : Int) (H : Int) (some ⟨g, po, none⟩) n c, .agg #[.int .i64 x, .int .i64 y], .agg #[.int .i64 (wx d), .int .i64 (wy d)], .int .i64 z] w fun e w' => e = .returned (.agg #[.int .i64 (wx (nxd (Ab W H T z) ⟨x, y, d⟩)), .int .i64 (wy (nxd (Ab W H T z) ⟨x, y, d⟩))]) ∧ Below w.heap.size w w' := by
  obtain ⟨v, hv⟩ : ∃ v, wx d = v := ⟨_, rfl⟩
  obtain ⟨u, hu⟩ : ∃ u, wy d = u := ⟨_, rfl⟩
  have hbx := wx_bd d
  have hby := wy_bd d
  have HWL := hide (w_lf hd)
  have HWR := hide (w_rt hd)
  have hql := q_left hd
  have hqr := q_right hd
  rw [(unhide HWL).1, (unhide HWL).2.1] at hql
  rw [(unhide HWR).1, (unhide HWR).2.1] at hqr
  rw [hv, hu] at hql hqr
  rw [hv] at hbx
  rw [hu] at hby
  have n1 : IntKind.i64.wrap (-u) = -u := wrap_i (by omega) (by omega)
  have n2 : IntKind.i64.wrap (-v) = -v := wrap_i (by omega) (by omega)
  have HVV := hide hv
  have HUU := hide hu
  obtain ⟨lx, hlx⟩ : ∃ lx, x + qx d = lx := ⟨_, rfl⟩
  obtain ⟨ly, hly⟩ : ∃ ly, y + qy d = ly := ⟨_, rfl⟩
  obtain ⟨rx, hrx⟩ : ∃ rx, x + qx (rt d) = rx := ⟨_, rfl⟩
  obtain ⟨ry, hry⟩ : ∃ ry, y + qy (rt d) = ry := ⟨_, rfl⟩
  have HLX := hide hlx
  have HLY := hide hly
  have HRX := hide hrx
  have HRY := hide hry
  obtain ⟨a1, ha1⟩ : ∃ a, v + -u = a := ⟨_, rfl⟩
  obtain ⟨a2, ha2⟩ : ∃ a, u + v = a := ⟨_, rfl⟩
  obtain ⟨c1, hc1⟩ : ∃ a, v + u = a := ⟨_, rfl⟩
  obtain ⟨c2, hc2⟩ : ∃ a, u + -v = a := ⟨_, rfl⟩
  rw [ha1, ha2] at hql
  rw [hc1, hc2] at hqr
  have HP1 : Hid (∀ X, Calls Try.prog 90 #[.agg #[.int .i64 v, .int .i64 u], .agg #[.int .i64 (-u), .int .i64 v]] X fun e w' => e = .returned (.agg #[.int .i64 a1, .int .i64 a2]) ∧ Below X.heap.size X w') := hide (fun X => by rw [← ha1, ← ha2]; exact plP_any v u (-u) v X (by omega) (by omega) (by omega) (by omega))
  have HP2 : Hid (∀ X, Calls Try.prog 90 #[.agg #[.int .i64 v, .int .i64 u], .agg #[.int .i64 u, .int .i64 (-v)]] X fun e w' => e = .returned (.agg #[.int .i64 c1, .int .i64 c2]) ∧ Below X.heap.size X w') := hide (fun X => by rw [← hc1, ← hc2]; exact plP_any v u u (-v) X (by omega) (by omega) (by omega) (by omega))
  have HC1 : Hid (∀ X, Calls Try.prog 99 #[.agg #[.int .i64 x, .int .i64 y], .agg #[.int .i64 a1, .int .i64 a2]] X fun e w' => e = .returned (.agg #[.int .i64 lx, .int .i64 ly]) ∧ Below X.heap.size X w') := hide (fun X => by rw [← hlx, ← hly, ← hql.1, ← hql.2]; exact cwP_any x y a1 a2 X (by omega) (by omega) (by omega) (by omega))
  have HC2 : Hid (∀ X, Calls Try.prog 99 #[.agg #[.int .i64 x, .int .i64 y], .agg #[.int .i64 c1, .int .i64 c2]] X fun e w' => e = .returned (.agg #[.int .i64 rx, .int .i64 ry]) ∧ Below X.heap.size X w') := hide (fun X => by rw [← hrx, ← hry, ← hqr.1, ← hqr.2]; exact cwP_any x y c1 c2 X (by omega) (by omega) (by omega) (by omega))
  have HF : ∀ X, Below w.heap.size w X → Fd X g po n c T := fun X hX => hF.bel hX
  have HA : Hid (∀ Y, Fd Y g po n c T → ∀ (p q : Int) X, Below Y.heap.size Y X → Calls Try.prog 98 #[fldV (W : Int) (H : Int) (some ⟨g, po, none⟩) n c, .agg #[.int .i64 p, .int .i64 q], .int .i64 z] X fun e w' => e = .returned (.bool (Ab W H T z p q)) ∧ Below X.heap.size X w') := hide (fun Y hY p q X hX => abP_any W H n c g po T p q z X hW1 hW hH1 hH hn (hY.bel hX))
  rw [hv, hu]
  unfold fldV at *
  clear hF hn hql hqr hlx hly hrx hry ha1 ha2 hc1 hc2 hv hu hbx hby hx hy
  go_enter Try.func89, Try.ntmps89
  go_upto_region 1 with fail
  have hbl : Below w.heap.size w ((((w.alloc (.cells #[.int .i64 (W : Int), .int .i64 (H : Int), .slice (some ⟨g, po, none⟩) n c] 25)).alloc (.cells #[.int .i64 x, .int .i64 y] 46)).alloc (.cells #[.int .i64 v, .int .i64 u] 46)).alloc (.cells #[.int .i64 0, .int .i64 0] 46)) := ba (ba (ba (ba (Below.refl _ _) _) _) _) _
  have HFb := hide (HF _ hbl)
  have HB := hide hbl
  have HV0 := hide ((vb_new1 w 25 [.int .i64 (W : Int), .int .i64 (H : Int), .slice (some ⟨g, po, none⟩) n c] (.cells #[.int .i64 x, .int .i64 y] 46)).bel (ba (ba (Below.refl _ _) (.cells #[.int .i64 v, .int .i64 u] 46)) (.cells #[.int .i64 0, .int .i64 0] 46)))
  have HV1 := hide ((vb_new2 w 46 [.int .i64 x, .int .i64 y] (.cells #[.int .i64 (W : Int), .int .i64 (H : Int), .slice (some ⟨g, po, none⟩) n c] 25)).bel (ba (ba (Below.refl _ _) (.cells #[.int .i64 v, .int .i64 u] 46)) (.cells #[.int .i64 0, .int .i64 0] 46)))
  have HV2 := hide ((vb_new ((w.alloc (.cells #[.int .i64 (W : Int), .int .i64 (H : Int), .slice (some ⟨g, po, none⟩) n c] 25)).alloc (.cells #[.int .i64 x, .int .i64 y] 46)) 46 [.int .i64 v, .int .i64 u] (w.heap.size + 1 + 1) (by simp)).bel (ba (Below.refl _ _) (.cells #[.int .i64 0, .int .i64 0] 46)))
  have HV8 := hide (vb_new (((w.alloc (.cells #[.int .i64 (W : Int), .int .i64 (H : Int), .slice (some ⟨g, po, none⟩) n c] 25)).alloc (.cells #[.int .i64 x, .int .i64 y] 46)).alloc (.cells #[.int .i64 v, .int .i64 u] 46)) 46 [.int .i64 0, .int .i64 0] (w.heap.size + 1 + 1 + 1) (by simp))
  clear hbl HF
  generalize (((w.alloc (.cells #[.int .i64 (W : Int), .int .i64 (H : Int), .slice (some ⟨g, po, none⟩) n c] 25)).alloc (.cells #[.int .i64 x, .int .i64 y] 46)).alloc (.cells #[.int .i64 v, .int .i64 u] 46)).alloc (.cells #[.int .i64 0, .int .i64 0] 46) = Wa at *
  have h8 : w.heap.size ≤ w.heap.size + 1 + 1 + 1 := by omega
  generalize w.heap.size + 1 + 1 + 1 = b8 at *
  generalize w.heap.size + 1 + 1 = b6 at *
  generalize w.heap.size + 1 = b5 at *
  refine Go.Code.wp_mono (Only.to (fun _ _ h => h)) (wy1 n1 n2 HV2 (fun b9 b10 Wb hwb h9 h10 => ?_))
  have HV9 := hide h9
  have HV10 := hide h10
  have G0 := hide ((unhide HV0).bel hwb)
  have G1 := hide ((unhide HV1).bel hwb)
  have G2 := hide ((unhide HV2).bel hwb)
  have G8 := hide ((unhide HV8).bel hwb)
  have GB := hide (bc (unhide HB) hwb)
  have GF := hide ((unhide HFb).bel hwb)
  clear HV0 HV1 HV2 HV8 HB HFb hwb h9 h10
  go_upto_region 2 with fail
  refine Go.Code.wp_mono (Only.to (fun _ _ h => h)) (wy2 G0 G1 G2 HV9 (hide fun X _ => unhide HP1 X) (hide fun X _ => unhide HC1 X) (hide fun X hX => unhide HA Wb (unhide GF) lx ly X hX) (fun Wc hwc => ?_))
  cases hcl : Ab W H T z lx ly with
  | false =>
    have HV8' := (unhide G8).bel hwc
    have HV9' := (unhide HV9).bel hwc
    have HB' := hide (bc (unhide GB) hwc)
    have HE : Hid (nxd (Ab W H T z) ⟨x, y, d⟩ = lf d) := hide (by unfold nxd; rw [if_pos (by rw [show col (Ab W H T z) ⟨x, y, d⟩ d = Ab W H T z lx ly by rw [← unhide HLX, ← unhide HLY]; rfl]; exact hcl)])
    have r0 := HV9'.cell (m := 0) rfl
    have r1 := HV9'.cell (m := 1) rfl
    have q0 := HV8'.cell (m := 0) rfl
    have q1 := HV8'.cell (m := 1) rfl
    have qf := HV8'.frozen
    have HV := hide ((HV8'.set 0 (.int .i64 (-u))).set 1 (.int .i64 v))
    clear HV8' HV9' hcl hwc
    go_wp2_with fail
    have s0 := (unhide HV).cell (m := 0) rfl
    have s1 := (unhide HV).cell (m := 1) rfl
    refine bodyPost_ret (v := .agg #[.int .i64 (-u), .int .i64 v]) (by simp [results, Try.results89, go_sem, s0, s1]) rfl ⟨?_, ((unhide HB').setCell (p := ⟨b8, 0, none⟩) h8 _).setCell (p := ⟨b8, 1, none⟩) h8 _⟩
    rw [unhide HE, (unhide HWL).1, (unhide HWL).2.1, unhide HVV, unhide HUU]
  | true =>
    have F0 := hide ((unhide G0).bel hwc)
    have F1 := hide ((unhide G1).bel hwc)
    have F2 := hide ((unhide G2).bel hwc)
    have F8 := hide ((unhide G8).bel hwc)
    have F10 := hide ((unhide HV10).bel hwc)
    have FB := hide (bc (unhide GB) hwc)
    have FF := hide ((unhide GF).bel hwc)
    have HCL := hide hcl
    clear hcl hwc
    go_upto_region 4 with fail
    refine Go.Code.wp_mono (Only.to (fun _ _ h => h)) (wy4 F0 F1 F2 F10 (hide fun X _ => unhide HP2 X) (hide fun X _ => unhide HC2 X) (hide fun X hX => unhide HA Wc (unhide FF) rx ry X hX) (fun Wd hwd => ?_))
    cases hcr : Ab W H T z rx ry with
    | true =>
      have HV8' := (unhide F8).bel hwd
      have HV9' := (unhide F10).bel hwd
      have HB' := hide (bc (unhide FB) hwd)
      have HE : Hid (nxd (Ab W H T z) ⟨x, y, d⟩ = rt d) := hide (by unfold nxd; rw [if_neg (by rw [show col (Ab W H T z) ⟨x, y, d⟩ d = Ab W H T z lx ly by rw [← unhide HLX, ← unhide HLY]; rfl, unhide HCL]; simp), if_pos (by rw [show col (Ab W H T z) ⟨x, y, d⟩ (rt d) = Ab W H T z rx ry by rw [← unhide HRX, ← unhide HRY]; rfl]; exact hcr)])
      have r0 := HV9'.cell (m := 0) rfl
      have r1 := HV9'.cell (m := 1) rfl
      have q0 := HV8'.cell (m := 0) rfl
      have q1 := HV8'.cell (m := 1) rfl
      have qf := HV8'.frozen
      have HV := hide ((HV8'.set 0 (.int .i64 u)).set 1 (.int .i64 (-v)))
      clear HV8' HV9' hcr hwd
      go_wp2_with fail
      have s0 := (unhide HV).cell (m := 0) rfl
      have s1 := (unhide HV).cell (m := 1) rfl
      refine bodyPost_ret (v := .agg #[.int .i64 u, .int .i64 (-v)]) (by simp [results, Try.results89, go_sem, s0, s1]) rfl ⟨?_, ((unhide HB').setCell (p := ⟨b8, 0, none⟩) h8 _).setCell (p := ⟨b8, 1, none⟩) h8 _⟩
      rw [unhide HE, (unhide HWR).1, (unhide HWR).2.1, unhide HVV, unhide HUU]
    | false =>
      have HV8' := (unhide F8).bel hwd
      have HV9' := (unhide F2).bel hwd
      have HB' := hide (bc (unhide FB) hwd)
      have HE : Hid (nxd (Ab W H T z) ⟨x, y, d⟩ = d) := hide (by unfold nxd; rw [if_neg (by rw [show col (Ab W H T z) ⟨x, y, d⟩ d = Ab W H T z lx ly by rw [← unhide HLX, ← unhide HLY]; rfl, unhide HCL]; simp), if_neg (by rw [show col (Ab W H T z) ⟨x, y, d⟩ (rt d) = Ab W H T z rx ry by rw [← unhide HRX, ← unhide HRY]; rfl, hcr]; simp)])
      have r0 := HV9'.cell (m := 0) rfl
      have r1 := HV9'.cell (m := 1) rfl
      have q0 := HV8'.cell (m := 0) rfl
      have q1 := HV8'.cell (m := 1) rfl
      have qf := HV8'.frozen
      have HV := hide ((HV8'.set 0 (.int .i64 v)).set 1 (.int .i64 u))
      clear HV8' HV9' hcr hwd
      go_wp2_with fail
      have s0 := (unhide HV).cell (m := 0) rfl
      have s1 := (unhide HV).cell (m := 1) rfl
      refine bodyPost_ret (v := .agg #[.int .i64 v, .int .i64 u]) (by simp [results, Try.results89, go_sem, s0, s1]) rfl ⟨?_, ((unhide HB').setCell (p := ⟨b8, 0, none⟩) h8 _).setCell (p := ⟨b8, 1, none⟩) h8 _⟩
      rw [unhide HE, unhide HVV, unhide HUU]
end Go.Proofs.Ytjhldjojkaphkaa
