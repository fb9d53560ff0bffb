/-
  The corners of an outline as an iterator.
-/
import Derived.Test.YtjhldjojkaphkaaTf3
import Derived.Test.YtjhldjojkaphkaaEq46
import Derived.Sort.LoopGhostIn
namespace Go.Proofs.Ytjhldjojkaphkaa
open Go.ChangeShapes Go.WideShapes Go.ChangeAt Go.RowKit Go.Shelf
attribute [local go_sem] Oper.semAt_some
set_option linter.unusedVariables false
set_option linter.unusedSimpArgs false

set_option maxHeartbeats 2000000 in
theorem trfM (W H n c g po : Nat) (x y z : Int) (w : World) :
    Calls Try.prog 54 #[fldV (W : Int) (H : Int) (some ⟨g, po, none⟩) n c, .agg #[.int .i64 x, .int .i64 y], .int .i64 z] w fun e w' => e = .returned (.func (.func 88) #[] #[.pointer (some ⟨w.heap.size + 1, 0, none⟩), .pointer (some ⟨w.heap.size, 0, none⟩), .pointer (some ⟨w.heap.size + 1 + 1, 0, none⟩)]) ∧ w' = ((w.alloc (.cells #[.int .i64 (W : Int), .int .i64 (H : Int), .slice (some ⟨g, po, none⟩) n c] 25)).alloc (.cells #[.int .i64 x, .int .i64 y] 46)).alloc (.cells #[.int .i64 z] 3) := by
  unfold fldV
  go_enter Try.func54, Try.ntmps54
  go_wp2_with fail
  go_ret
  exact ⟨rfl, rfl⟩
theorem wxy_ne {d e : Nat} (hd : d < 4) (he : e < 4) (h : e ≠ d) : ¬ ((wx e, wy e) = (wx d, wy d)) := fun hh => h (wxy_inj he hd (Prod.mk.inj hh).1 (Prod.mk.inj hh).2)
set_option maxRecDepth 100000 in
set_option maxHeartbeats 4000000 in
theorem tfS (m W H n c g po b1 b2 b3 n₀ x0 y0 K : Nat) (T : List Int) (z : Int) (w : World) (hW1 : 1 ≤ W) (hW : W ≤ 24) (hH1 : 1 ≤ H) (hH : H ≤ 24) (hn : n = W * H) (h1 : b1 < n₀) (h2 : b2 < n₀) (h3 : b3 < n₀) (hgn : g < n₀) (hn₀ : n₀ ≤ w.heap.size)
    (hv1 : vb w b1 46 [.int .i64 (x0 : Int), .int .i64 (y0 : Int)]) (hv2 : vb w b2 25 [.int .i64 (W : Int), .int .i64 (H : Int), .slice (some ⟨g, po, none⟩) n c]) (hv3 : vb w b3 3 [.int .i64 z]) (hF : Fd w g po n c T) (hfs : Fst W H T z x0 y0) (hK : Bck (Ab W H T z) ⟨(x0 : Int), (y0 : Int), 3⟩ K) :
    SeqO Fence.wide m Try.prog 88 #[.pointer (some ⟨b1, 0, none⟩), .pointer (some ⟨b2, 0, none⟩), .pointer (some ⟨b3, 0, none⟩)] (cor (crn (Ab W H T z) ⟨(x0 : Int), (y0 : Int), 3⟩ K)) (ctn (Ab W H T z) ⟨(x0 : Int), (y0 : Int), 3⟩ K) n₀ w := by
  intro l J Jx W0 hW0 hJ hJx hY h0
  have HVk : Hid (∀ X, Below n₀ W0 X → vb X b1 46 [.int .i64 (x0 : Int), .int .i64 (y0 : Int)] ∧ vb X b2 25 [.int .i64 (W : Int), .int .i64 (H : Int), .slice (some ⟨g, po, none⟩) n c] ∧ vb X b3 3 [.int .i64 z] ∧ Fd X g po n c T) := hide (fun X hX => ⟨(hv1.below hW0 (by omega)).below hX h1, (hv2.below hW0 (by omega)).below hX h2, (hv3.below hW0 (by omega)).below hX h3, Nat.lt_of_lt_of_le (Nat.lt_of_lt_of_le hF.lt hW0.size) hX.size, (hF.ints.below hW0 (by omega)).below hX hgn, hF.len, hF.cap, hF.top⟩)
  have HY := hide hY
  have HJ := hide hJ
  have HJX := hide hJx
  have HJ0 := hide h0
  have HCK := hide hfs.ok
  have HK := hide hK
  have hns : n₀ ≤ W0.heap.size := Nat.le_trans hn₀ hW0.size
  obtain ⟨cs, hcs⟩ : ∃ cs, cor (crn (Ab W H T z) ⟨(x0 : Int), (y0 : Int), 3⟩ K) = cs := ⟨_, rfl⟩
  have HCS := hide hcs
  have HWY := hide (fun (x y : Int) (d : Nat) X (hX : Fd X g po n c T) hd hx hy => wyP_any W H n c g po T x y d z X hW1 hW hH1 hH hn hd hx hy hX)
  obtain ⟨q1, q2, q3, q4⟩ := unhide HVk W0 (Below.refl _ _)
  have f0 := q1.cell (m := 0) rfl
  have f1 := q1.cell (m := 1) rfl
  clear hv1 hv2 hv3 hF hW0 hJ hJx hY h0 hfs hK q1 q2 q3 q4 hcs hn
  unfold fldV at *
  refine callsIn_of_wp Try.func88 rfl trivial ?_ rfl
  simp only [Try.ntmps88, List.size_toArray, List.length_cons, List.length_nil, Nat.reduceAdd, Nat.reduceSub, Array.replicate_succ, Array.replicate_zero, List.push_toArray, List.append_toArray, List.nil_append, List.cons_append]
  gi_wp2
  have hbl : Below W0.heap.size W0 ((W0.alloc (.cells #[.int .i64 (x0 : Int), .int .i64 (y0 : Int)] 46)).alloc (.cells #[.int .i64 0, .int .i64 (-1)] 46)) := ba (ba (Below.refl _ _) _) _
  have H5 := hide (vb_new1 W0 46 [.int .i64 (x0 : Int), .int .i64 (y0 : Int)] (.cells #[.int .i64 0, .int .i64 (-1)] 46))
  have H6 := hide (vb_new2 W0 46 [.int .i64 0, .int .i64 (-1)] (.cells #[.int .i64 (x0 : Int), .int .i64 (y0 : Int)] 46))
  have HJ1 := hide (unhide HJ (fun _ => False) (fun b => b = W0.heap.size ∨ b = W0.heap.size + 1) 0 _ _ (unhide HJ0) (Grw.of_bel hbl) (fun b hb => .inr (by omega)))
  have HB := hide (hbl.mono hns)
  clear hbl f0 f1 HJ0
  generalize (W0.alloc (.cells #[.int .i64 (x0 : Int), .int .i64 (y0 : Int)] 46)).alloc (.cells #[.int .i64 0, .int .i64 (-1)] 46) = Wa at *
  obtain ⟨b5, hb5⟩ : ∃ b, W0.heap.size = b := ⟨_, rfl⟩
  obtain ⟨b6, hb6⟩ : ∃ b, b5 + 1 = b := ⟨_, rfl⟩
  rw [hb5, hb6] at H6 HJ1
  rw [hb5] at H5
  rw [hb5, hb6]
  have n56 : b5 ≠ b6 := by omega
  have n65 : b6 ≠ b5 := by omega
  have h56 : n₀ ≤ b5 ∧ n₀ ≤ b6 := by omega
  have HS56 := hide (show W0.heap.size ≤ b5 ∧ W0.heap.size ≤ b6 by omega)
  clear hb5 hb6
  gi_loopg [] K (fun kk X => ∃ (j d : Nat) (px py : Int), kk = K - j ∧ j < K ∧ itr (nxt (Ab W H T z)) ⟨(x0 : Int), (y0 : Int), 3⟩ j = ⟨px, py, d⟩ ∧ J (fun b => b = b5 ∨ b = b6) (ctn (Ab W H T z) ⟨(x0 : Int), (y0 : Int), 3⟩ j) X ∧ vb X b5 46 [.int .i64 px, .int .i64 py] ∧ vb X b6 46 [.int .i64 (wx d), .int .i64 (wy d)] ∧ Below n₀ W0 X)
  case atStart => exact ⟨0, 3, _, _, rfl, (unhide HK).one, rfl, unhide HJ1, unhide H5, unhide H6, unhide HB⟩
  case round =>
    clear H5 H6 HJ1 HB
    obtain ⟨j, d, px, py, hgk, hjK, hst, hj, hv5, hv6, hb⟩ := hrel
    have HGK := hide hgk
    have HST := hide hst
    have HJ1 := hide hj
    have H5 := hide hv5
    have H6 := hide hv6
    have HB := hide hb
    have hok := itr_ok (unhide HCK).1 j
    rw [hst] at hok
    have hin := cok_in (Ab_in (W := W) (H := H) (T := T) (z := z)) hok
    have hd4 : d < 4 := hok.d4
    simp only at hin
    have hpx : 0 ≤ px ∧ px ≤ 24 := by omega
    have hpy : 0 ≤ py ∧ py ≤ 24 := by omega
    have hok2 := itr_ok (unhide HCK).1 (j + 1)
    obtain ⟨e, he⟩ : ∃ e, nxd (Ab W H T z) ⟨px, py, d⟩ = e := ⟨_, rfl⟩
    have HNX : Hid (itr (nxt (Ab W H T z)) ⟨(x0 : Int), (y0 : Int), 3⟩ (j + 1) = ⟨px + wx e, py + wy e, e⟩) := hide (by
      show nxt (Ab W H T z) (itr (nxt (Ab W H T z)) ⟨(x0 : Int), (y0 : Int), 3⟩ j) = _
      rw [hst]
      show (⟨px + wx (nxd (Ab W H T z) ⟨px, py, d⟩), py + wy (nxd (Ab W H T z) ⟨px, py, d⟩), nxd (Ab W H T z) ⟨px, py, d⟩⟩ : Cst) = _
      rw [he])
    rw [unhide HNX] at hok2
    have he4 : e < 4 := hok2.d4
    have HE := hide he
    obtain ⟨r1, r2, r3, r4⟩ := unhide HVk _ hb
    have k0 := r2.cell (m := 0) rfl
    have k1 := r2.cell (m := 1) rfl
    have k2 := r2.cell (m := 2) rfl
    have z0 := r3.cell (m := 0) rfl
    have p0 := hv5.cell (m := 0) rfl
    have p1 := hv5.cell (m := 1) rfl
    have d0 := hv6.cell (m := 0) rfl
    have d1 := hv6.cell (m := 1) rfl
    have HW1 := hide (unhide HWY px py d wr r4 hd4 hpx hpy)
    rw [he] at HW1
    have hex := wx_bd e
    have hey := wy_bd e
    have HP := hide (fun X => plP_any px py (wx e) (wy e) X (by omega) (by omega) (by omega) (by omega))
    clear hgk hst hj hv5 hv6 hb hok hin hok2 he r1 r2 r3 r4 hex hey
    gi_wp2
    refine ⟨trivial, fun h => (by cases h), (callsIn_wide.2 (unhide HW1)).mono ?_⟩
    rintro _ W2 ⟨rfl, hb2⟩
    have H5b := hide ((unhide H5).bel hb2)
    have H6b := hide ((unhide H6).bel hb2)
    have hnw : n₀ ≤ wr.heap.size := Nat.le_trans hns (unhide HB).size
    have HB2 := hide ((unhide HB).trans (hb2.mono hnw))
    have HJ2 := hide (unhide HJ _ (fun b => b = b5 ∨ b = b6 ∨ b = W2.heap.size) _ _ _ (unhide HJ1) (Grw.of_bel (bc (Below.refl _ _) (bc hb2 (ba (Below.refl _ _) (.cells #[.int .i64 (wx e), .int .i64 (wy e)] 46))))) (fun b hb => by have := hb2.size; rcases hb with h | h | h; exact .inl (.inl h); exact .inl (.inr h); exact .inr (by omega)))
    have hA : Below W2.heap.size W2 (W2.alloc (.cells #[.int .i64 (wx e), .int .i64 (wy e)] 46)) := ba (Below.refl _ _) _
    have hnw2 : n₀ ≤ W2.heap.size := Nat.le_trans hnw hb2.size
    have H5c := hide ((unhide H5b).bel hA)
    have H6c := hide ((unhide H6b).bel hA)
    have H7c := hide (vb_new W2 46 [.int .i64 (wx e), .int .i64 (wy e)] W2.heap.size rfl)
    have HBc := hide ((unhide HB2).trans (hA.mono hnw2))
    have n75 : W2.heap.size ≠ b5 := by have := (unhide H5b).lt; omega
    have n76 : W2.heap.size ≠ b6 := by have := (unhide H6b).lt; omega
    have hsz7 : W2.heap.size < (W2.alloc (.cells #[.int .i64 (wx e), .int .i64 (wy e)] 46)).heap.size := by simp
    have h07 : n₀ ≤ W2.heap.size := hnw2
    have h07' : W0.heap.size ≤ W2.heap.size := (unhide HB2).size
    have l5 := (unhide H5b).lt
    have l6 := (unhide H6b).lt
    clear d0 d1 p0 p1
    have p0 := (unhide H5b).cell (m := 0) rfl
    have p1 := (unhide H5b).cell (m := 1) rfl
    have d0 := (unhide H6b).cell (m := 0) rfl
    have d1 := (unhide H6b).cell (m := 1) rfl
    clear hb2 hA k0 k1 k2 z0 H5 H6 H5b H6b HJ1 HB HB2
    by_cases hed : e = d
    · have hq0 : ∀ X, (binOp .neq 46 (.agg #[.int .i64 (wx e), .int .i64 (wy e)]) (.agg #[.int .i64 (wx d), .int .i64 (wy d)])).run Try.prog X = .ok (.bool false) X := fun X => by rw [neq46, decide_eq_true (by rw [hed])]; rfl
      have HCT : Hid (ctn (Ab W H T z) ⟨(x0 : Int), (y0 : Int), 3⟩ (j + 1) = ctn (Ab W H T z) ⟨(x0 : Int), (y0 : Int), 3⟩ j) := hide (by
        show ctn (Ab W H T z) ⟨(x0 : Int), (y0 : Int), 3⟩ j + _ = _
        rw [unhide HST, unhide HE, if_pos hed, Nat.add_zero])
      have HJ2' := HJ2
      rw [← unhide HCT] at HJ2'
      clear hed HJ2
      gi_wp2
      refine ⟨fun _ h => (by cases h), ?_⟩
      gi_wp2
      generalize W2.alloc (.cells #[.int .i64 (wx e), .int .i64 (wy e)] 46) = W4 at *
      generalize W2.heap.size = b7 at *
      refine wpIn_wide.2 (Go.Code.wp_mono (Only.to (fun _ _ h => h)) (tf3 n56 n65 n75 n76 H5c H6c H7c HP (fun Wf h5 h6 hg => ?_)))
      have HB3 := hide ((unhide HBc).trans (hg.bel (n := n₀) (Nat.le_trans hns (unhide HBc).size) (fun b hb => by omega)))
      have HJ3 := hide (unhide HJ _ (fun b => b = b5 ∨ b = b6) _ _ _ (unhide HJ2') (hg.mono (fun b hb => hb.elim .inl (fun h => .inr (.inl h)))) (fun b hb => .inl (hb.elim .inl (fun h => .inr (.inl h)))))
      have H5f := hide h5
      have H6f := hide h6
      obtain ⟨r1, r2, r3, r4⟩ := unhide HVk _ (unhide HB3)
      have f0 := r1.cell (m := 0) rfl
      have f1 := r1.cell (m := 1) rfl
      have p0 := h5.cell (m := 0) rfl
      have p1 := h5.cell (m := 1) rfl
      clear h5 h6 hg r1 r2 r3 r4
      by_cases heq : px + wx e = (x0 : Int) ∧ py + wy e = (y0 : Int)
      · have hq : ∀ X, (binOp .eql 46 (.agg #[.int .i64 (px + wx e), .int .i64 (py + wy e)]) (.agg #[.int .i64 (x0 : Int), .int .i64 (y0 : Int)])).run Try.prog X = .ok (.bool true) X := fun X => by rw [eql46, decide_eq_true heq]
        have hjk : j + 1 = K := by
          rcases Nat.lt_or_eq_of_le (show j + 1 ≤ K by omega) with h1 | h1
          · exfalso
            refine (unhide HK).no (j + 1) (by omega) h1 ?_
            rw [unhide HNX]
            exact heq
          · exact h1
        have HJK := hide hjk
        clear heq hjk
        gi_wp2
        refine bodyPost_ret (results_none rfl _ _ _) rfl ?_
        exact ⟨⟨_, rfl⟩, _, .inl (by rw [← unhide HJK]; exact unhide HJ3)⟩
      · have hq : ∀ X, (binOp .eql 46 (.agg #[.int .i64 (px + wx e), .int .i64 (py + wy e)]) (.agg #[.int .i64 (x0 : Int), .int .i64 (y0 : Int)])).run Try.prog X = .ok (.bool false) X := fun X => by rw [eql46, decide_eq_false heq]
        have hjk : j + 1 < K := by
          rcases Nat.lt_or_eq_of_le (show j + 1 ≤ K by omega) with h1 | h1
          · exact h1
          · exfalso
            have h2 := (unhide HK).at'
            rw [← h1, unhide HNX] at h2
            exact heq h2
        clear heq
        gi_wp2
        go_roundg (K - (j + 1))
        case measure => have := unhide HGK; omega
        case rel => exact ⟨j + 1, e, _, _, rfl, hjk, unhide HNX, unhide HJ3, unhide H5f, unhide H6f, unhide HB3⟩
    · have hq0 : ∀ X, (binOp .neq 46 (.agg #[.int .i64 (wx e), .int .i64 (wy e)]) (.agg #[.int .i64 (wx d), .int .i64 (wy d)])).run Try.prog X = .ok (.bool true) X := fun X => by rw [neq46, decide_eq_false (wxy_ne hd4 he4 hed)]; rfl
      have hca := cor_at hjK (unhide HST) (by rw [unhide HE]; exact hed)
      have HCT := hide hca.2.2
      have HLT := hide hca.2.1
      obtain ⟨fn, tmps, assign, body, hy, hR⟩ := unhide HY _ _ _ hca.2.1 (fun b hb => by rcases hb with rfl | rfl | rfl; exact ⟨(unhide HS56).1, (unhide H5c).lt⟩; exact ⟨(unhide HS56).2, (unhide H6c).lt⟩; exact ⟨h07', hsz7⟩) (unhide HJ2)
      rw [hca.1] at hy
      clear hca hed HJ2
      gi_wp2
      refine ⟨fun h => (by cases h), hR.mono ?_⟩
      rintro _ W3 (⟨rfl, hJ3, hk3⟩ | ⟨rfl, hJx3⟩)
      · have H5d := hide ((hk3.own _ (.inl rfl) (unhide H5c).lt).trans (unhide H5c))
        have H6d := hide ((hk3.own _ (.inr (.inl rfl)) (unhide H6c).lt).trans (unhide H6c))
        have H7d := hide ((hk3.own _ (.inr (.inr rfl)) hsz7).trans (unhide H7c))
        have HBd := hide ((unhide HBc).trans hk3.bel)
        have HJd := hide hJ3
        rw [← unhide HCT] at HJd
        clear hJ3 hk3 hR hy H5c H6c H7c HBc p0 p1 d0 d1 hsz7
        gi_wp2
        generalize W2.heap.size = b7 at *
        refine wpIn_wide.2 (Go.Code.wp_mono (Only.to (fun _ _ h => h)) (tf3 n56 n65 n75 n76 H5d H6d H7d HP (fun Wf h5 h6 hg => ?_)))
        have HB3 := hide ((unhide HBd).trans (hg.bel (n := n₀) (Nat.le_trans hns (unhide HBd).size) (fun b hb => by omega)))
        have HJ3 := hide (unhide HJ _ (fun b => b = b5 ∨ b = b6) _ _ _ (unhide HJd) (hg.mono (fun b hb => hb.elim .inl (fun h => .inr (.inl h)))) (fun b hb => .inl (hb.elim .inl (fun h => .inr (.inl h)))))
        have H5f := hide h5
        have H6f := hide h6
        obtain ⟨r1, r2, r3, r4⟩ := unhide HVk _ (unhide HB3)
        have f0 := r1.cell (m := 0) rfl
        have f1 := r1.cell (m := 1) rfl
        have p0 := h5.cell (m := 0) rfl
        have p1 := h5.cell (m := 1) rfl
        clear h5 h6 hg r1 r2 r3 r4
        by_cases heq : px + wx e = (x0 : Int) ∧ py + wy e = (y0 : Int)
        · have hq : ∀ X, (binOp .eql 46 (.agg #[.int .i64 (px + wx e), .int .i64 (py + wy e)]) (.agg #[.int .i64 (x0 : Int), .int .i64 (y0 : Int)])).run Try.prog X = .ok (.bool true) X := fun X => by rw [eql46, decide_eq_true heq]
          have hjk : j + 1 = K := by
            rcases Nat.lt_or_eq_of_le (show j + 1 ≤ K by omega) with h1 | h1
            · exfalso
              refine (unhide HK).no (j + 1) (by omega) h1 ?_
              rw [unhide HNX]
              exact heq
            · exact h1
          have HJK := hide hjk
          clear heq hjk
          gi_wp2
          refine bodyPost_ret (results_none rfl _ _ _) rfl ?_
          exact ⟨⟨_, rfl⟩, _, .inl (by rw [← unhide HJK]; exact unhide HJ3)⟩
        · have hq : ∀ X, (binOp .eql 46 (.agg #[.int .i64 (px + wx e), .int .i64 (py + wy e)]) (.agg #[.int .i64 (x0 : Int), .int .i64 (y0 : Int)])).run Try.prog X = .ok (.bool false) X := fun X => by rw [eql46, decide_eq_false heq]
          have hjk : j + 1 < K := by
            rcases Nat.lt_or_eq_of_le (show j + 1 ≤ K by omega) with h1 | h1
            · exact h1
            · exfalso
              have h2 := (unhide HK).at'
              rw [← h1, unhide HNX] at h2
              exact heq h2
          clear heq
          gi_wp2
          go_roundg (K - (j + 1))
          case measure => have := unhide HGK; omega
          case rel => exact ⟨j + 1, e, _, _, rfl, hjk, unhide HNX, unhide HJ3, unhide H5f, unhide H6f, unhide HB3⟩
      · clear hR hy
        have HX3 := hide hJx3
        clear hJx3
        gi_wp2
        refine bodyPost_ret (results_none rfl _ _ _) rfl ?_
        exact ⟨⟨_, rfl⟩, _, .inr ⟨_, unhide HLT, unhide HX3⟩⟩
end Go.Proofs.Ytjhldjojkaphkaa
