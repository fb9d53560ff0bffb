/-
  Two points held against one another. The corners of an outline as an iterator. The model's outline of a field that is one, at a height that is one. The program's outline of a field that is one, at a height that is one. The program's Zigzag at right arguments. The program's Zigzag at wrong arguments. A slice of structs of whole numbers that came in, opened. The program's Zigzag answers as the model at every stock, part, tool and step, right or not; it changes none; its moves lie in memory of their own.
-/
import Derived.Test.YtjhldjojkaphkaaVb
import Derived.Test.YtjhldjojkaphkaaTf3
import Derived.Sort.LoopGhostIn
import Derived.Test.YtjhldjojkaphkaaCtM0
import Derived.Deep.LoopGhost
import Derived.Test.YtjhldjojkaphkaaCol2
import Derived.Test.YtjhldjojkaphkaaZgM
import Derived.Test.YtjhldjojkaphkaaZgA
import Derived.Test.YtjhldjojkaphkaaOwn
import Derived.Deep.Slices
import Derived.ChangeSame
import Derived.Test.YtjhldjojkaphkaaChecked
import Derived.Test.YtjhldjojkaphkaaRows
import Derived.ChangeOld
import Derived.Lib.SmallJoins
namespace Go.Proofs.Ytjhldjojkaphkaa
open Go.ChangeShapes Go.WideShapes Go.ChangeAt Go.RowKit
set_option linter.unusedVariables false
set_option linter.unusedSimpArgs false

theorem neq46 (a1 a2 b1 b2 : Int) (W : World) : (binOp .neq 46 (.agg #[.int .i64 a1, .int .i64 a2]) (.agg #[.int .i64 b1, .int .i64 b2])).run Try.prog W = .ok (.bool (!decide ((a1, a2) = (b1, b2)))) W := by
  cases h1 : a1 == b1 <;> cases h2 : a2 == b2
  all_goals
    have k1 := h1
    have k2 := h2
    simp only [beq_eq_false_iff_ne, beq_iff_eq] at k1 k2
    have e : decide ((a1, a2) = (b1, b2)) = (a1 == b1 && a2 == b2) := by simp [k1, k2]
    rw [e, h1, h2]
    clear e k1 k2
    go_simp
theorem ty46 : (Try.prog.info? 46).map (fun i => (i.zero, i.size, i.bytes)) = some (some (.agg #[.int .i64 0, .int .i64 0]), 2, 16) := by kernel_rfl
end Go.Proofs.Ytjhldjojkaphkaa

namespace Go.Proofs.Ytjhldjojkaphkaa
open Go.ChangeShapes Go.WideShapes Go.ChangeAt Go.RowKit Go.Shelf
attribute [local go_sem] Oper.semAt_some
set_option linter.unusedVariables false
set_option linter.unusedSimpArgs false

set_option maxHeartbeats 2000000 in
theorem trfM (W H n c g po : Nat) (x y z : Int) (w : World) :
    Calls Try.prog 54 #[fldV (W : Int) (H : Int) (some ⟨g, po, none⟩) n c, .agg #[.int .i64 x, .int .i64 y], .int .i64 z] w fun e w' => e = .returned (.func (.func 88) #[] #[.pointer (some ⟨w.heap.size + 1, 0, none⟩), .pointer (some ⟨w.heap.size, 0, none⟩), .pointer (some ⟨w.heap.size + 1 + 1, 0, none⟩)]) ∧ w' = ((w.alloc (.cells #[.int .i64 (W : Int), .int .i64 (H : Int), .slice (some ⟨g, po, none⟩) n c] 25)).alloc (.cells #[.int .i64 x, .int .i64 y] 46)).alloc (.cells #[.int .i64 z] 3) := by
  unfold fldV
  go_enter Try.func54, Try.ntmps54
  go_wp2_with fail
  go_ret
  exact ⟨rfl, rfl⟩
theorem wxy_ne {d e : Nat} (hd : d < 4) (he : e < 4) (h : e ≠ d) : ¬ ((wx e, wy e) = (wx d, wy d)) := fun hh => h (wxy_inj he hd (Prod.mk.inj hh).1 (Prod.mk.inj hh).2)
set_option maxRecDepth 100000 in
set_option maxHeartbeats 4000000 in
theorem tfS (m W H n c g po b1 b2 b3 n₀ x0 y0 K : Nat) (T : List Int) (z : Int) (w : World) (hW1 : 1 ≤ W) (hW : W ≤ 24) (hH1 : 1 ≤ H) (hH : H ≤ 24) (hn : n = W * H) (h1 : b1 < n₀) (h2 : b2 < n₀) (h3 : b3 < n₀) (hgn : g < n₀) (hn₀ : n₀ ≤ w.heap.size)
    (hv1 : vb w b1 46 [.int .i64 (x0 : Int), .int .i64 (y0 : Int)]) (hv2 : vb w b2 25 [.int .i64 (W : Int), .int .i64 (H : Int), .slice (some ⟨g, po, none⟩) n c]) (hv3 : vb w b3 3 [.int .i64 z]) (hF : Fd w g po n c T) (hfs : Fst W H T z x0 y0) (hK : Bck (Ab W H T z) ⟨(x0 : Int), (y0 : Int), 3⟩ K) :
    SeqO Fence.wide m Try.prog 88 #[.pointer (some ⟨b1, 0, none⟩), .pointer (some ⟨b2, 0, none⟩), .pointer (some ⟨b3, 0, none⟩)] (cor (crn (Ab W H T z) ⟨(x0 : Int), (y0 : Int), 3⟩ K)) (ctn (Ab W H T z) ⟨(x0 : Int), (y0 : Int), 3⟩ K) n₀ w := by
  intro l J Jx W0 hW0 hJ hJx hY h0
  have HVk : Hid (∀ X, Below n₀ W0 X → vb X b1 46 [.int .i64 (x0 : Int), .int .i64 (y0 : Int)] ∧ vb X b2 25 [.int .i64 (W : Int), .int .i64 (H : Int), .slice (some ⟨g, po, none⟩) n c] ∧ vb X b3 3 [.int .i64 z] ∧ Fd X g po n c T) := hide (fun X hX => ⟨(hv1.below hW0 (by omega)).below hX h1, (hv2.below hW0 (by omega)).below hX h2, (hv3.below hW0 (by omega)).below hX h3, Nat.lt_of_lt_of_le (Nat.lt_of_lt_of_le hF.lt hW0.size) hX.size, (hF.ints.below hW0 (by omega)).below hX hgn, hF.len, hF.cap, hF.top⟩)
  have HY := hide hY
  have HJ := hide hJ
  have HJX := hide hJx
  have HJ0 := hide h0
  have HCK := hide hfs.ok
  have HK := hide hK
  have hns : n₀ ≤ W0.heap.size := Nat.le_trans hn₀ hW0.size
  obtain ⟨cs, hcs⟩ : ∃ cs, cor (crn (Ab W H T z) ⟨(x0 : Int), (y0 : Int), 3⟩ K) = cs := ⟨_, rfl⟩
  have HCS := hide hcs
  have HWY := hide (fun (x y : Int) (d : Nat) X (hX : Fd X g po n c T) hd hx hy => wyP_any W H n c g po T x y d z X hW1 hW hH1 hH hn hd hx hy hX)
  obtain ⟨q1, q2, q3, q4⟩ := unhide HVk W0 (Below.refl _ _)
  have f0 := q1.cell (m := 0) rfl
  have f1 := q1.cell (m := 1) rfl
  clear hv1 hv2 hv3 hF hW0 hJ hJx hY h0 hfs hK q1 q2 q3 q4 hcs hn
  unfold fldV at *
  refine callsIn_of_wp Try.func88 rfl trivial ?_ rfl
  simp only [Try.ntmps88, List.size_toArray, List.length_cons, List.length_nil, Nat.reduceAdd, Nat.reduceSub, Array.replicate_succ, Array.replicate_zero, List.push_toArray, List.append_toArray, List.nil_append, List.cons_append]
  gi_wp2
  have hbl : Below W0.heap.size W0 ((W0.alloc (.cells #[.int .i64 (x0 : Int), .int .i64 (y0 : Int)] 46)).alloc (.cells #[.int .i64 0, .int .i64 (-1)] 46)) := ba (ba (Below.refl _ _) _) _
  have H5 := hide (vb_new1 W0 46 [.int .i64 (x0 : Int), .int .i64 (y0 : Int)] (.cells #[.int .i64 0, .int .i64 (-1)] 46))
  have H6 := hide (vb_new2 W0 46 [.int .i64 0, .int .i64 (-1)] (.cells #[.int .i64 (x0 : Int), .int .i64 (y0 : Int)] 46))
  have HJ1 := hide (unhide HJ (fun _ => False) (fun b => b = W0.heap.size ∨ b = W0.heap.size + 1) 0 _ _ (unhide HJ0) (Grw.of_bel hbl) (fun b hb => .inr (by omega)))
  have HB := hide (hbl.mono hns)
  clear hbl f0 f1 HJ0
  generalize (W0.alloc (.cells #[.int .i64 (x0 : Int), .int .i64 (y0 : Int)] 46)).alloc (.cells #[.int .i64 0, .int .i64 (-1)] 46) = Wa at *
  obtain ⟨b5, hb5⟩ : ∃ b, W0.heap.size = b := ⟨_, rfl⟩
  obtain ⟨b6, hb6⟩ : ∃ b, b5 + 1 = b := ⟨_, rfl⟩
  rw [hb5, hb6] at H6 HJ1
  rw [hb5] at H5
  rw [hb5, hb6]
  have n56 : b5 ≠ b6 := by omega
  have n65 : b6 ≠ b5 := by omega
  have h56 : n₀ ≤ b5 ∧ n₀ ≤ b6 := by omega
  have HS56 := hide (show W0.heap.size ≤ b5 ∧ W0.heap.size ≤ b6 by omega)
  clear hb5 hb6
  gi_loopg [] K (fun kk X => ∃ (j d : Nat) (px py : Int), kk = K - j ∧ j < K ∧ itr (nxt (Ab W H T z)) ⟨(x0 : Int), (y0 : Int), 3⟩ j = ⟨px, py, d⟩ ∧ J (fun b => b = b5 ∨ b = b6) (ctn (Ab W H T z) ⟨(x0 : Int), (y0 : Int), 3⟩ j) X ∧ vb X b5 46 [.int .i64 px, .int .i64 py] ∧ vb X b6 46 [.int .i64 (wx d), .int .i64 (wy d)] ∧ Below n₀ W0 X)
  case atStart => exact ⟨0, 3, _, _, rfl, (unhide HK).one, rfl, unhide HJ1, unhide H5, unhide H6, unhide HB⟩
  case round =>
    clear H5 H6 HJ1 HB
    obtain ⟨j, d, px, py, hgk, hjK, hst, hj, hv5, hv6, hb⟩ := hrel
    have HGK := hide hgk
    have HST := hide hst
    have HJ1 := hide hj
    have H5 := hide hv5
    have H6 := hide hv6
    have HB := hide hb
    have hok := itr_ok (unhide HCK).1 j
    rw [hst] at hok
    have hin := cok_in (Ab_in (W := W) (H := H) (T := T) (z := z)) hok
    have hd4 : d < 4 := hok.d4
    simp only at hin
    have hpx : 0 ≤ px ∧ px ≤ 24 := by omega
    have hpy : 0 ≤ py ∧ py ≤ 24 := by omega
    have hok2 := itr_ok (unhide HCK).1 (j + 1)
    obtain ⟨e, he⟩ : ∃ e, nxd (Ab W H T z) ⟨px, py, d⟩ = e := ⟨_, rfl⟩
    have HNX : Hid (itr (nxt (Ab W H T z)) ⟨(x0 : Int), (y0 : Int), 3⟩ (j + 1) = ⟨px + wx e, py + wy e, e⟩) := hide (by
      show nxt (Ab W H T z) (itr (nxt (Ab W H T z)) ⟨(x0 : Int), (y0 : Int), 3⟩ j) = _
      rw [hst]
      show (⟨px + wx (nxd (Ab W H T z) ⟨px, py, d⟩), py + wy (nxd (Ab W H T z) ⟨px, py, d⟩), nxd (Ab W H T z) ⟨px, py, d⟩⟩ : Cst) = _
      rw [he])
    rw [unhide HNX] at hok2
    have he4 : e < 4 := hok2.d4
    have HE := hide he
    obtain ⟨r1, r2, r3, r4⟩ := unhide HVk _ hb
    have k0 := r2.cell (m := 0) rfl
    have k1 := r2.cell (m := 1) rfl
    have k2 := r2.cell (m := 2) rfl
    have z0 := r3.cell (m := 0) rfl
    have p0 := hv5.cell (m := 0) rfl
    have p1 := hv5.cell (m := 1) rfl
    have d0 := hv6.cell (m := 0) rfl
    have d1 := hv6.cell (m := 1) rfl
    have HW1 := hide (unhide HWY px py d wr r4 hd4 hpx hpy)
    rw [he] at HW1
    have hex := wx_bd e
    have hey := wy_bd e
    have HP := hide (fun X => plP_any px py (wx e) (wy e) X (by omega) (by omega) (by omega) (by omega))
    clear hgk hst hj hv5 hv6 hb hok hin hok2 he r1 r2 r3 r4 hex hey
    gi_wp2
    refine ⟨trivial, fun h => (by cases h), (callsIn_wide.2 (unhide HW1)).mono ?_⟩
    rintro _ W2 ⟨rfl, hb2⟩
    have H5b := hide ((unhide H5).bel hb2)
    have H6b := hide ((unhide H6).bel hb2)
    have hnw : n₀ ≤ wr.heap.size := Nat.le_trans hns (unhide HB).size
    have HB2 := hide ((unhide HB).trans (hb2.mono hnw))
    have HJ2 := hide (unhide HJ _ (fun b => b = b5 ∨ b = b6 ∨ b = W2.heap.size) _ _ _ (unhide HJ1) (Grw.of_bel (bc (Below.refl _ _) (bc hb2 (ba (Below.refl _ _) (.cells #[.int .i64 (wx e), .int .i64 (wy e)] 46))))) (fun b hb => by have := hb2.size; rcases hb with h | h | h; exact .inl (.inl h); exact .inl (.inr h); exact .inr (by omega)))
    have hA : Below W2.heap.size W2 (W2.alloc (.cells #[.int .i64 (wx e), .int .i64 (wy e)] 46)) := ba (Below.refl _ _) _
    have hnw2 : n₀ ≤ W2.heap.size := Nat.le_trans hnw hb2.size
    have H5c := hide ((unhide H5b).bel hA)
    have H6c := hide ((unhide H6b).bel hA)
    have H7c := hide (vb_new W2 46 [.int .i64 (wx e), .int .i64 (wy e)] W2.heap.size rfl)
    have HBc := hide ((unhide HB2).trans (hA.mono hnw2))
    have n75 : W2.heap.size ≠ b5 := by have := (unhide H5b).lt; omega
    have n76 : W2.heap.size ≠ b6 := by have := (unhide H6b).lt; omega
    have hsz7 : W2.heap.size < (W2.alloc (.cells #[.int .i64 (wx e), .int .i64 (wy e)] 46)).heap.size := by simp
    have h07 : n₀ ≤ W2.heap.size := hnw2
    have h07' : W0.heap.size ≤ W2.heap.size := (unhide HB2).size
    have l5 := (unhide H5b).lt
    have l6 := (unhide H6b).lt
    clear d0 d1 p0 p1
    have p0 := (unhide H5b).cell (m := 0) rfl
    have p1 := (unhide H5b).cell (m := 1) rfl
    have d0 := (unhide H6b).cell (m := 0) rfl
    have d1 := (unhide H6b).cell (m := 1) rfl
    clear hb2 hA k0 k1 k2 z0 H5 H6 H5b H6b HJ1 HB HB2
    by_cases hed : e = d
    · have hq0 : ∀ X, (binOp .neq 46 (.agg #[.int .i64 (wx e), .int .i64 (wy e)]) (.agg #[.int .i64 (wx d), .int .i64 (wy d)])).run Try.prog X = .ok (.bool false) X := fun X => by rw [neq46, decide_eq_true (by rw [hed])]; rfl
      have HCT : Hid (ctn (Ab W H T z) ⟨(x0 : Int), (y0 : Int), 3⟩ (j + 1) = ctn (Ab W H T z) ⟨(x0 : Int), (y0 : Int), 3⟩ j) := hide (by
        show ctn (Ab W H T z) ⟨(x0 : Int), (y0 : Int), 3⟩ j + _ = _
        rw [unhide HST, unhide HE, if_pos hed, Nat.add_zero])
      have HJ2' := HJ2
      rw [← unhide HCT] at HJ2'
      clear hed HJ2
      gi_wp2
      refine ⟨fun _ h => (by cases h), ?_⟩
      gi_wp2
      generalize W2.alloc (.cells #[.int .i64 (wx e), .int .i64 (wy e)] 46) = W4 at *
      generalize W2.heap.size = b7 at *
      refine wpIn_wide.2 (Go.Code.wp_mono (Only.to (fun _ _ h => h)) (tf3 n56 n65 n75 n76 H5c H6c H7c HP (fun Wf h5 h6 hg => ?_)))
      have HB3 := hide ((unhide HBc).trans (hg.bel (n := n₀) (Nat.le_trans hns (unhide HBc).size) (fun b hb => by omega)))
      have HJ3 := hide (unhide HJ _ (fun b => b = b5 ∨ b = b6) _ _ _ (unhide HJ2') (hg.mono (fun b hb => hb.elim .inl (fun h => .inr (.inl h)))) (fun b hb => .inl (hb.elim .inl (fun h => .inr (.inl h)))))
      have H5f := hide h5
      have H6f := hide h6
      obtain ⟨r1, r2, r3, r4⟩ := unhide HVk _ (unhide HB3)
      have f0 := r1.cell (m := 0) rfl
      have f1 := r1.cell (m := 1) rfl
      have p0 := h5.cell (m := 0) rfl
      have p1 := h5.cell (m := 1) rfl
      clear h5 h6 hg r1 r2 r3 r4
      by_cases heq : px + wx e = (x0 : Int) ∧ py + wy e = (y0 : Int)
      · have hq : ∀ X, (binOp .eql 46 (.agg #[.int .i64 (px + wx e), .int .i64 (py + wy e)]) (.agg #[.int .i64 (x0 : Int), .int .i64 (y0 : Int)])).run Try.prog X = .ok (.bool true) X := fun X => by rw [eql46, decide_eq_true heq]
        have hjk : j + 1 = K := by
          rcases Nat.lt_or_eq_of_le (show j + 1 ≤ K by omega) with h1 | h1
          · exfalso
            refine (unhide HK).no (j + 1) (by omega) h1 ?_
            rw [unhide HNX]
            exact heq
          · exact h1
        have HJK := hide hjk
        clear heq hjk
        gi_wp2
        refine bodyPost_ret (results_none rfl _ _ _) rfl ?_
        exact ⟨⟨_, rfl⟩, _, .inl (by rw [← unhide HJK]; exact unhide HJ3)⟩
      · have hq : ∀ X, (binOp .eql 46 (.agg #[.int .i64 (px + wx e), .int .i64 (py + wy e)]) (.agg #[.int .i64 (x0 : Int), .int .i64 (y0 : Int)])).run Try.prog X = .ok (.bool false) X := fun X => by rw [eql46, decide_eq_false heq]
        have hjk : j + 1 < K := by
          rcases Nat.lt_or_eq_of_le (show j + 1 ≤ K by omega) with h1 | h1
          · exact h1
          · exfalso
            have h2 := (unhide HK).at'
            rw [← h1, unhide HNX] at h2
            exact heq h2
        clear heq
        gi_wp2
        go_roundg (K - (j + 1))
        case measure => have := unhide HGK; omega
        case rel => exact ⟨j + 1, e, _, _, rfl, hjk, unhide HNX, unhide HJ3, unhide H5f, unhide H6f, unhide HB3⟩
    · have hq0 : ∀ X, (binOp .neq 46 (.agg #[.int .i64 (wx e), .int .i64 (wy e)]) (.agg #[.int .i64 (wx d), .int .i64 (wy d)])).run Try.prog X = .ok (.bool true) X := fun X => by rw [neq46, decide_eq_false (wxy_ne hd4 he4 hed)]; rfl
      have hca := cor_at hjK (unhide HST) (by rw [unhide HE]; exact hed)
      have HCT := hide hca.2.2
      have HLT := hide hca.2.1
      obtain ⟨fn, tmps, assign, body, hy, hR⟩ := unhide HY _ _ _ hca.2.1 (fun b hb => by rcases hb with rfl | rfl | rfl; exact ⟨(unhide HS56).1, (unhide H5c).lt⟩; exact ⟨(unhide HS56).2, (unhide H6c).lt⟩; exact ⟨h07', hsz7⟩) (unhide HJ2)
      rw [hca.1] at hy
      clear hca hed HJ2
      gi_wp2
      refine ⟨fun h => (by cases h), hR.mono ?_⟩
      rintro _ W3 (⟨rfl, hJ3, hk3⟩ | ⟨rfl, hJx3⟩)
      · have H5d := hide ((hk3.own _ (.inl rfl) (unhide H5c).lt).trans (unhide H5c))
        have H6d := hide ((hk3.own _ (.inr (.inl rfl)) (unhide H6c).lt).trans (unhide H6c))
        have H7d := hide ((hk3.own _ (.inr (.inr rfl)) hsz7).trans (unhide H7c))
        have HBd := hide ((unhide HBc).trans hk3.bel)
        have HJd := hide hJ3
        rw [← unhide HCT] at HJd
        clear hJ3 hk3 hR hy H5c H6c H7c HBc p0 p1 d0 d1 hsz7
        gi_wp2
        generalize W2.heap.size = b7 at *
        refine wpIn_wide.2 (Go.Code.wp_mono (Only.to (fun _ _ h => h)) (tf3 n56 n65 n75 n76 H5d H6d H7d HP (fun Wf h5 h6 hg => ?_)))
        have HB3 := hide ((unhide HBd).trans (hg.bel (n := n₀) (Nat.le_trans hns (unhide HBd).size) (fun b hb => by omega)))
        have HJ3 := hide (unhide HJ _ (fun b => b = b5 ∨ b = b6) _ _ _ (unhide HJd) (hg.mono (fun b hb => hb.elim .inl (fun h => .inr (.inl h)))) (fun b hb => .inl (hb.elim .inl (fun h => .inr (.inl h)))))
        have H5f := hide h5
        have H6f := hide h6
        obtain ⟨r1, r2, r3, r4⟩ := unhide HVk _ (unhide HB3)
        have f0 := r1.cell (m := 0) rfl
        have f1 := r1.cell (m := 1) rfl
        have p0 := h5.cell (m := 0) rfl
        have p1 := h5.cell (m := 1) rfl
        clear h5 h6 hg r1 r2 r3 r4
        by_cases heq : px + wx e = (x0 : Int) ∧ py + wy e = (y0 : Int)
        · have hq : ∀ X, (binOp .eql 46 (.agg #[.int .i64 (px + wx e), .int .i64 (py + wy e)]) (.agg #[.int .i64 (x0 : Int), .int .i64 (y0 : Int)])).run Try.prog X = .ok (.bool true) X := fun X => by rw [eql46, decide_eq_true heq]
          have hjk : j + 1 = K := by
            rcases Nat.lt_or_eq_of_le (show j + 1 ≤ K by omega) with h1 | h1
            · exfalso
              refine (unhide HK).no (j + 1) (by omega) h1 ?_
              rw [unhide HNX]
              exact heq
            · exact h1
          have HJK := hide hjk
          clear heq hjk
          gi_wp2
          refine bodyPost_ret (results_none rfl _ _ _) rfl ?_
          exact ⟨⟨_, rfl⟩, _, .inl (by rw [← unhide HJK]; exact unhide HJ3)⟩
        · have hq : ∀ X, (binOp .eql 46 (.agg #[.int .i64 (px + wx e), .int .i64 (py + wy e)]) (.agg #[.int .i64 (x0 : Int), .int .i64 (y0 : Int)])).run Try.prog X = .ok (.bool false) X := fun X => by rw [eql46, decide_eq_false heq]
          have hjk : j + 1 < K := by
            rcases Nat.lt_or_eq_of_le (show j + 1 ≤ K by omega) with h1 | h1
            · exact h1
            · exfalso
              have h2 := (unhide HK).at'
              rw [← h1, unhide HNX] at h2
              exact heq h2
          clear heq
          gi_wp2
          go_roundg (K - (j + 1))
          case measure => have := unhide HGK; omega
          case rel => exact ⟨j + 1, e, _, _, rfl, hjk, unhide HNX, unhide HJ3, unhide H5f, unhide H6f, unhide HB3⟩
      · clear hR hy
        have HX3 := hide hJx3
        clear hJx3
        gi_wp2
        refine bodyPost_ret (results_none rfl _ _ _) rfl ?_
        exact ⟨⟨_, rfl⟩, _, .inr ⟨_, unhide HLT, unhide HX3⟩⟩
end Go.Proofs.Ytjhldjojkaphkaa

namespace Go.Proofs.Ytjhldjojkaphkaa
open Go.ChangeShapes Go.WideShapes Go.ChangeAt Go.RowKit
set_option linter.unusedVariables false
set_option linter.unusedSimpArgs false

/-- what an outline answers -/
structure Otl (W H : Nat) (T : List Int) (z : Int) (E : Int) (L : List Int) : Prop where
  none : (∀ i, i < W * H → ¬ z < tp T i) → E = 8 ∧ L = []
  some : ∀ x y K, Fst W H T z x y → Bck (Ab W H T z) ⟨(x : Int), (y : Int), 3⟩ K → E = 0 ∧ L = crn (Ab W H T z) ⟨(x : Int), (y : Int), 3⟩ K
/-- so far the outline has been gone round -/
structure Wlk (A : Int → Int → Bool) (s : Cst) (K k d : Nat) (px py : Int) : Prop where
  lt : k < K
  hx : (itr (nxt A) s k).x = px
  hy : (itr (nxt A) s k).y = py
  hd : nxd A (itr (nxt A) s k) = d
theorem Wlk.next {A : Int → Int → Bool} {s : Cst} {K k d : Nat} {px py : Int} (h : Wlk A s K k d px py) : itr (nxt A) s (k + 1) = ⟨px + wx d, py + wy d, d⟩ := by
  show (⟨(itr (nxt A) s k).x + wx (nxd A (itr (nxt A) s k)), (itr (nxt A) s k).y + wy (nxd A (itr (nxt A) s k)), nxd A (itr (nxt A) s k)⟩ : Cst) = _
  rw [h.hd, h.hx, h.hy]
theorem Wlk.go {A : Int → Int → Bool} {s : Cst} {K k d e : Nat} {px py : Int} (h : Wlk A s K k d px py) (hk : k + 1 < K) (he : nxd A ⟨px + wx d, py + wy d, d⟩ = e) : Wlk A s K (k + 1) e (px + wx d) (py + wy d) := by
  refine ⟨hk, ?_, ?_, ?_⟩ <;> rw [h.next]
  exact he
theorem crn_turn {A : Int → Int → Bool} {s : Cst} {K k d e : Nat} {px py : Int} (h : Wlk A s K k d px py) (he : nxd A ⟨px + wx d, py + wy d, d⟩ = e) (hn : e ≠ d) : crn A s (k + 1 + 1) = crn A s (k + 1) ++ [px + wx d, py + wy d] := by
  show crn A s (k + 1) ++ _ = _
  rw [h.next, he, if_neg hn]
theorem crn_stay {A : Int → Int → Bool} {s : Cst} {K k d : Nat} {px py : Int} (h : Wlk A s K k d px py) (he : nxd A ⟨px + wx d, py + wy d, d⟩ = d) : crn A s (k + 1 + 1) = crn A s (k + 1) := by
  show crn A s (k + 1) ++ _ = _
  rw [h.next, he, if_pos rfl, List.append_nil]
set_option maxHeartbeats 8000000 in
set_option maxRecDepth 100000 in
theorem ctM_good (W H n c g po : Nat) (T : List Int) (z : Int) (w : World) (hO : FOk (W : Int) (H : Int) T) (hn : n = W * H) (hz : 0 ≤ z ∧ z ≤ 23) (hF : Fd w g po n c T) :
    Calls Try.prog 16 #[fldV (W : Int) (H : Int) (some ⟨g, po, none⟩) n c, .int .i64 z] w fun e w' => (∃ (v : Value) (l : Nat) (L : List Int) (E : Int), e = .returned (.tuple #[v, .int .i64 E]) ∧ Row w' w.heap.size 46 2 v l L ∧ Otl W H T z E L) ∧ Below w.heap.size w w' := by
  obtain ⟨_, _, ea, eb, hW1, hW, hH1, hH, _⟩ := hO.nat
  cases Int.natCast_inj.1 ea
  cases Int.natCast_inj.1 eb
  have HFO := hide (fun X (hX : Below w.heap.size w X) => fokM_any (W : Int) (H : Int) (some ⟨g, po, none⟩) g po n c T X hF.len (by have := hF.cap; have := hF.top; omega) (hF.bel hX).its)
  have hfo : fokB (W : Int) (H : Int) T = true := decide_eq_true hO
  rw [hfo] at HFO
  have HAB := hide (fun (x y : Int) (X : World) (hX : Below w.heap.size w X) => abM_any W H n c g po T x y z X hW hH hn (hF.bel hX))
  have HB0 := hide (ba (Below.refl w.heap.size w) (.cells #[.int .i64 (W : Int), .int .i64 (H : Int), .slice (some ⟨g, po, none⟩) n c] 25))
  have HV0 := hide (vb_new w 25 [.int .i64 (W : Int), .int .i64 (H : Int), .slice (some ⟨g, po, none⟩) n c] w.heap.size rfl)
  have tz1 : decide (z < 0) = false := decide_eq_false (by omega)
  have tz2 : decide (24 ≤ z) = false := decide_eq_false (by omega)
  have wH : IntKind.i64.wrap ((H : Int) - 1) = (H : Int) - 1 := wrap_i (by omega) (by omega)
  have wW : IntKind.i64.wrap ((W : Int) - 1) = (W : Int) - 1 := wrap_i (by omega) (by omega)
  unfold fldV at *
  clear hF hfo ea eb hn hO
  go_enter Try.func16, Try.ntmps16
  go_upto_region 1 with fail
  generalize w.alloc (.cells #[.int .i64 (W : Int), .int .i64 (H : Int), .slice (some ⟨g, po, none⟩) n c] 25) = Wa at *
  have k0 := (unhide HV0).cell (m := 0) rfl
  have k1 := (unhide HV0).cell (m := 1) rfl
  have k2 := (unhide HV0).cell (m := 2) rfl
  go_wp2_with fail
  refine (unhide HFO _ (unhide HB0)).mono ?_
  rintro e W1 ⟨rfl, hb1⟩
  have hA : Below W1.heap.size W1 (W1.alloc (.cells #[.int .i64 (-1), .int .i64 0] 46)) := ba (Below.refl _ _) _
  have HV1 := hide (((unhide HV0).bel hb1).bel hA)
  have HB1 := hide (bc (bc (unhide HB0) hb1) hA)
  have HF1 := hide (vb_new W1 46 [.int .i64 (-1), .int .i64 0] W1.heap.size rfl)
  have hs1 : w.heap.size < W1.heap.size := Nat.lt_of_lt_of_le (unhide HV0).lt hb1.size
  clear hb1 hA HV0 HB0 k0 k1 k2
  go_upto_region 6 with fail
  generalize W1.alloc (.cells #[.int .i64 (-1), .int .i64 0] 46) = Wb at *
  generalize W1.heap.size = b6 at *
  have k1 := (unhide HV1).cell (m := 1) rfl
  go_wp2_with fail
  clear k1
  go_loopw [7] (fun zz X => ∃ (p : Nat) (pz fx fy : Int), zz = .int .i64 pz ∧ pz = (p : Int) - 1 ∧ p ≤ H ∧ Sc W H T z (p * W) fx fy ∧ vb X b6 46 [.int .i64 fx, .int .i64 fy] ∧ vb X w.heap.size 25 [.int .i64 (W : Int), .int .i64 (H : Int), .slice (some ⟨g, po, none⟩) n c] ∧ Below w.heap.size w X) (fun zz _ => (intOf zz + 1).toNat)
  case atStart => exact ⟨H, _, -1, 0, rfl, rfl, Nat.le_refl _, Sc.start W H T z, unhide HF1, unhide HV1, unhide HB1⟩
  case round =>
    obtain ⟨p, pz, fx, fy, rfl, hpz, hpH, hsc, hv6, hv0, hb⟩ := hrel
    have HPZ := hide hpz
    have HSC := hide hsc
    have H6 := hide hv6
    have H0 := hide hv0
    have HB := hide hb
    clear hsc hv6 hv0 hb HF1 HV1 HB1
    have k0 := (unhide H0).cell (m := 0) rfl
    by_cases hp : 0 < p
    · have lz : decide (0 ≤ pz) = true := decide_eq_true (by omega)
      obtain ⟨q, hq⟩ : ∃ q, p = q + 1 := ⟨p - 1, by omega⟩
      have HQ := hide hq
      have hqH : q < H := by omega
      have wq : IntKind.i64.wrap (pz - 1) = ((q : Nat) : Int) - 1 := (wrap_i (by omega) (by omega)).trans (by omega)
      have hz0 : 0 ≤ pz := by omega
      have hzq : pz < H := by omega
      clear hq hpz
      go_wp2_with fail
      clear k0
      go_loopw [8] (fun zz X => ∃ (u : Nat) (uz fx fy : Int), zz = .int .i64 uz ∧ uz = (u : Int) - 1 ∧ u ≤ W ∧ Sc W H T z (q * W + u) fx fy ∧ vb X b6 46 [.int .i64 fx, .int .i64 fy] ∧ vb X w.heap.size 25 [.int .i64 (W : Int), .int .i64 (H : Int), .slice (some ⟨g, po, none⟩) n c] ∧ Below w.heap.size w X) (fun zz _ => (intOf zz + 1).toNat)
      case atStart => exact ⟨W, _, fx, fy, rfl, rfl, Nat.le_refl _, by have := unhide HSC; rw [unhide HQ, Nat.add_mul, Nat.one_mul] at this; exact this, unhide H6, unhide H0, unhide HB⟩
      case round =>
        obtain ⟨u, uz, fx, fy, rfl, huz, huW, hsc, hv6, hv0, hb⟩ := hrel
        have HUZ := hide huz
        have HSC := hide hsc
        have H6 := hide hv6
        have H0 := hide hv0
        have HB := hide hb
        clear hsc hv6 hv0 hb
        by_cases hu : 0 < u
        · have lu : decide (0 ≤ uz) = true := decide_eq_true (by omega)
          obtain ⟨v, hv⟩ : ∃ v, u = v + 1 := ⟨u - 1, by omega⟩
          have wv : IntKind.i64.wrap (uz - 1) = ((v : Nat) : Int) - 1 := (wrap_i (by omega) (by omega)).trans (by omega)
          have k0 := (unhide H0).cell (m := 0) rfl
          have k1 := (unhide H0).cell (m := 1) rfl
          have k2 := (unhide H0).cell (m := 2) rfl
          have HVV := hide hv
          have hvW : v < W := by omega
          have hu0 : 0 ≤ uz := by omega
          have huv : uz < W := by omega
          clear hv huz
          go_wp2_with fail
          refine (unhide HAB uz pz _ (unhide HB)).mono ?_
          rintro e W2 ⟨rfl, hb2⟩
          have H6b := hide ((unhide H6).bel hb2)
          have H0b := hide ((unhide H0).bel hb2)
          have HBb := hide (bc (unhide HB) hb2)
          have HAA : Hid (Ab W H T z uz pz = decide (z < tp T (q * W + v))) := hide (by
            rw [show uz = (v : Int) by have := unhide HVV; have := unhide HUZ; omega, show pz = (q : Int) by have := unhide HQ; have := unhide HPZ; omega]
            exact Ab_at hvW hqH)
          clear hb2 H6 H0 HB k0 k1 k2
          rw [unhide HAA]
          by_cases hab : z < tp T (q * W + v)
          · rw [decide_eq_true hab]
            have f0 := (unhide H6b).cell (m := 0) rfl
            have f1 := (unhide H6b).cell (m := 1) rfl
            have ff := (unhide H6b).frozen
            have HY := hide (Sc.yes (T := T) (z := z) hvW hqH hab)
            clear hab
            go_wp2_with fail
            go_roundw
            case rel =>
              refine ⟨v, _, (v : Int), (q : Int), rfl, rfl, by omega, unhide HY, ?_, (unhide H0b).ne (by omega) |>.ne (by omega), Below.setCell (Below.setCell (unhide HBb) (Nat.le_of_lt hs1) _) (Nat.le_of_lt hs1) _⟩
              have h9 := ((unhide H6b).set 0 (.int .i64 uz)).set 1 (.int .i64 pz)
              rw [show (v : Int) = uz by have := unhide HVV; have := unhide HUZ; omega, show (q : Int) = pz by have := unhide HQ; have := unhide HPZ; omega]
              exact h9
            case measure => have := unhide HVV; have := unhide HUZ; simp [intOf]; omega
          · rw [decide_eq_false hab]
            have HN := hide (Sc.no (by have := unhide HSC; rw [unhide HVV] at this; exact this) hab)
            clear hab
            go_wp2_with fail
            go_roundw
            case rel =>
              exact ⟨v, _, fx, fy, rfl, rfl, by omega, unhide HN, unhide H6b, unhide H0b, unhide HBb⟩
            case measure => have := unhide HVV; have := unhide HUZ; simp [intOf]; omega
        · have lu : decide (0 ≤ uz) = false := decide_eq_false (by omega)
          obtain rfl : u = 0 := by omega
          go_wp2_with fail
          go_roundw
          case rel =>
            exact ⟨q, _, fx, fy, rfl, rfl, by omega, by simpa using unhide HSC, unhide H6, unhide H0, unhide HB⟩
          case measure => have := unhide HQ; have := unhide HPZ; simp [intOf]; omega
    · have lz : decide (0 ≤ pz) = false := decide_eq_false (by omega)
      obtain rfl : p = 0 := by omega
      have hd := Sc.done (by have := unhide HSC; rwa [Nat.zero_mul] at this)
      have f0 := (unhide H6).cell (m := 0) rfl
      have f1 := (unhide H6).cell (m := 1) rfl
      rcases hd with ⟨hno, rfl⟩ | ⟨x0, y0, rfl, rfl, hfst⟩
      · have HNO := hide hno
        clear hno
        go_wp2_with fail
        (try rw [Exit.noGoto_ret])
        refine bodyPost_ret (v := .tuple #[.slice (some ⟨wr.heap.size, 0, none⟩) 0 0, .int .i64 8]) (by simp [results, Try.results16, go_sem]) rfl ?_
        exact ⟨⟨_, 0, [], 8, rfl, row_made wr 46 w.heap.size 2 (unhide HB).size _ rfl, ⟨fun _ => ⟨rfl, rfl⟩, fun x y K hF _ => absurd hF.ab (Int.not_lt.2 (unhide HNO _ (by have h1 := Nat.mul_le_mul_right W (show y + 1 ≤ H from hF.hy); rw [Nat.add_mul, Nat.one_mul] at h1; have := hF.hx; rw [Nat.mul_comm W H]; omega)))⟩⟩, ba (unhide HB) _⟩
      · have HFS := hide hfst
        have hx0 := hfst.hx
        have hy0 := hfst.hy
        have hx1 : decide ((x0 : Int) < 0) = false := decide_eq_false (by omega)
        obtain ⟨iP, hi1, hp0, hp1, hp2⟩ := info_parts pt46
        have hck := hfst.ok
        obtain ⟨K, hK⟩ := Bck.ex hW hH (Ab_in (W := W) (H := H) (T := T) (z := z)) hck.1
        have HK := hide hK
        have HCK := hide hck.1
        have HS0 : Hid (crn (Ab W H T z) ⟨(x0 : Int), (y0 : Int), 3⟩ 1 = [(x0 : Int), (y0 : Int)]) := hide (by
          show crn (Ab W H T z) ⟨(x0 : Int), (y0 : Int), 3⟩ 0 ++ _ = _
          show [] ++ (if nxd (Ab W H T z) ⟨(x0 : Int), (y0 : Int), 3⟩ = 3 then [] else [(x0 : Int), (y0 : Int)]) = _
          rw [hck.2]
          rfl)
        have HW0 : Hid (Wlk (Ab W H T z) ⟨(x0 : Int), (y0 : Int), 3⟩ K 0 0 (x0 : Int) (y0 : Int)) := hide ⟨hK.one, rfl, rfl, hck.2⟩
        have hKb := hK.le
        clear hK hck hfst hpz
        go_upto_region 19 with fail
        have hA : Below wr.heap.size wr (wr.alloc (.cells #[.int .i64 (x0 : Int), .int .i64 (y0 : Int)] 46)) := ba (Below.refl _ _) _
        have H11a := hide (vb_new wr 46 [.int .i64 (x0 : Int), .int .i64 (y0 : Int)] wr.heap.size rfl)
        have H6a := hide ((unhide H6).bel hA)
        have H0a := hide ((unhide H0).bel hA)
        have HBa := hide (bc (unhide HB) hA)
        have h6lt := (unhide H6).lt
        clear hA H6 H0 HB f0 f1
        generalize wr.alloc (.cells #[.int .i64 (x0 : Int), .int .i64 (y0 : Int)] 46) = Wc at *
        generalize wr.heap.size = b11 at *
        have f0 := (unhide H6a).cell (m := 0) rfl
        have f1 := (unhide H6a).cell (m := 1) rfl
        go_wp2_with fail
        have hA : Below Wc.heap.size Wc (Wc.alloc (.cells #[.int .i64 (x0 : Int), .int .i64 (y0 : Int)] 46)) := ba (Below.refl _ _) _
        have H11 := hide ((unhide H11a).bel hA)
        have H6 := hide ((unhide H6a).bel hA)
        have H0 := hide ((unhide H0a).bel hA)
        have HB := hide (bc (unhide HBa) hA)
        have HR : Hid (Row (Wc.alloc (.cells #[.int .i64 (x0 : Int), .int .i64 (y0 : Int)] 46)) Wc.heap.size 46 2 (.slice (some ⟨Wc.heap.size, 0, none⟩) 1 1) 1 [(x0 : Int), (y0 : Int)]) := hide ⟨by simp, .inr ⟨Wc.heap.size, 1, #[.int .i64 (x0 : Int), .int .i64 (y0 : Int)], rfl, Nat.le_refl _, heap_alloc_new Wc _, Nat.le_refl _, by unfold maxLen; omega, by simp, by simp⟩⟩
        have hq11 := (unhide H11a).lt
        have hqw := (unhide HBa).size
        have hqs0 : Wc.heap.size ≤ (Wc.alloc (.cells #[.int .i64 (x0 : Int), .int .i64 (y0 : Int)] 46)).heap.size := by simp
        clear hA H11a H6a H0a HBa f0 f1
        generalize Wc.alloc (.cells #[.int .i64 (x0 : Int), .int .i64 (y0 : Int)] 46) = Wd at *
        generalize Value.slice (some ⟨Wc.heap.size, 0, none⟩) 1 1 = v12 at *
        generalize Wc.heap.size = Bq at *
        go_loopg [9, 10, 12] K (fun kk a9 a10 a12 X => ∃ (k d l : Nat) (px py : Int), a9 = .int .i64 (wx d) ∧ a10 = .int .i64 (wy d) ∧ kk = K - k ∧ l ≤ k + 1 ∧ Wlk (Ab W H T z) ⟨(x0 : Int), (y0 : Int), 3⟩ K k d px py ∧ Row X Bq 46 2 a12 l (crn (Ab W H T z) ⟨(x0 : Int), (y0 : Int), 3⟩ (k + 1)) ∧ Bq ≤ X.heap.size ∧ vb X b11 46 [.int .i64 px, .int .i64 py] ∧ vb X b6 46 [.int .i64 (x0 : Int), .int .i64 (y0 : Int)] ∧ vb X w.heap.size 25 [.int .i64 (W : Int), .int .i64 (H : Int), .slice (some ⟨g, po, none⟩) n c] ∧ Below w.heap.size w X)
        case atStart => exact ⟨0, 0, 1, _, _, rfl, rfl, rfl, Nat.le_refl _, unhide HW0, by rw [unhide HS0]; exact unhide HR, hqs0, unhide H11, unhide H6, unhide H0, unhide HB⟩
        case round =>
          clear HR H11 H6 H0 HB HW0 HS0
          obtain ⟨k, d, l, px, py, rfl, rfl, hgk, hl, hwk, hrow, hqs, hv11, hv6, hv0, hb⟩ := hrel
          have HGK := hide hgk
          have HWK := hide hwk
          have HR := hide hrow
          have H11 := hide hv11
          have H6 := hide hv6
          have H0 := hide hv0
          have HB := hide hb
          have hok1 := itr_ok (unhide HCK) k
          have hok2 := itr_ok (unhide HCK) (k + 1)
          have hin1 := cok_in (Ab_in (W := W) (H := H) (T := T) (z := z)) hok1
          have hin2 := cok_in (Ab_in (W := W) (H := H) (T := T) (z := z)) hok2
          have hd4 := hok2.d4
          rw [hwk.next] at hin2 hd4
          rw [hwk.hx, hwk.hy] at hin1
          simp only at hin2 hd4
          obtain ⟨ux, hux⟩ : ∃ ux, px + wx d = ux := ⟨_, rfl⟩
          obtain ⟨uy, huy⟩ : ∃ uy, py + wy d = uy := ⟨_, rfl⟩
          rw [hux, huy] at hin2
          have hkl := hwk.lt
          have wX : IntKind.i64.wrap (px + wx d) = ux := (wrap_i (by omega) (by omega)).trans hux
          have wY : IntKind.i64.wrap (py + wy d) = uy := (wrap_i (by omega) (by omega)).trans huy
          have HUX := hide hux
          have HUY := hide huy
          have c0 := (unhide H11).cell (m := 0) rfl
          have c1 := (unhide H11).cell (m := 1) rfl
          have cf := (unhide H11).frozen
          have hbx := wx_bd d
          have hby := wy_bd d
          have hu1 : -1000 ≤ ux ∧ ux ≤ 1000 := by omega
          have hu2 : -1000 ≤ uy ∧ uy ≤ 1000 := by omega
          clear hgk hwk hrow hv11 hv6 hv0 hb hok1 hok2 hin1 hin2 hux huy
          go_upto_region 21 with fail
          have hb6 : b6 ≠ b11 := by omega
          have hb0 : w.heap.size ≠ b11 := by omega
          have H11b := hide (((unhide H11).set 0 (.int .i64 ux)).set 1 (.int .i64 uy))
          have H6b := hide (((unhide H6).ne (o := 0) (x := .int .i64 ux) hb6).ne (o := 1) (x := .int .i64 uy) hb6)
          have H0b := hide (((unhide H0).ne (o := 0) (x := .int .i64 ux) hb0).ne (o := 1) (x := .int .i64 uy) hb0)
          have HRb : Hid (Row ((wr.setCell ⟨b11, 0, none⟩ (.int .i64 ux)).setCell ⟨b11, 1, none⟩ (.int .i64 uy)) Bq 46 2 u12 l (crn (Ab W H T z) ⟨(x0 : Int), (y0 : Int), 3⟩ (k + 1))) := hide ((unhide HR).kept' (fun gg hgg => by
            have hne : gg ≠ b11 := by have := ((unhide HR).lt gg hgg).1; omega
            exact (Below.heap_setCell _ _ _ _ hne).trans (Below.heap_setCell _ _ _ _ hne)))
          have HQb : Hid (Bq ≤ ((wr.setCell ⟨b11, 0, none⟩ (.int .i64 ux)).setCell ⟨b11, 1, none⟩ (.int .i64 uy)).heap.size) := hide (by have := hqs; simpa using this)
          have HBb := hide (((unhide HB).setCell (p := ⟨b11, 0, none⟩) (show w.heap.size ≤ b11 by omega) (.int .i64 ux)).setCell (p := ⟨b11, 1, none⟩) (show w.heap.size ≤ b11 by omega) (.int .i64 uy))
          have h11lt : b11 < ((wr.setCell ⟨b11, 0, none⟩ (.int .i64 ux)).setCell ⟨b11, 1, none⟩ (.int .i64 uy)).heap.size := (unhide H11b).lt
          clear HR H11 H6 H0 HB c0 c1 cf
          generalize (wr.setCell ⟨b11, 0, none⟩ (.int .i64 ux)).setCell ⟨b11, 1, none⟩ (.int .i64 uy) = We at *
          have c0 := (unhide H11b).cell (m := 0) rfl
          have c1 := (unhide H11b).cell (m := 1) rfl
          have f0 := (unhide H6b).cell (m := 0) rfl
          have f1 := (unhide H6b).cell (m := 1) rfl
          by_cases heq : ux = (x0 : Int) ∧ uy = (y0 : Int)
          · have he : ∀ X, (binOp .eql 46 (.agg #[.int .i64 ux, .int .i64 uy]) (.agg #[.int .i64 (x0 : Int), .int .i64 (y0 : Int)])).run Try.prog X = .ok (.bool true) X := fun X => by rw [eql46, decide_eq_true heq]
            have HEQ := hide heq
            clear heq
            go_wp2_with fail
            (try rw [Exit.noGoto_ret])
            refine bodyPost_ret (v := .tuple #[u12, .int .i64 0]) (by simp [results, Try.results16, go_sem]) rfl ?_
            refine ⟨⟨_, l, _, 0, rfl, (unhide HRb).mono hqw, ⟨fun hno => absurd (unhide HFS).ab (hno _ (ix_lt hx0 hy0)), fun x y K' hF hB' => ?_⟩⟩, unhide HBb⟩
            obtain ⟨rfl, rfl⟩ := hF.uniq (unhide HFS)
            obtain rfl := hB'.uniq (unhide HK)
            have hkK : k + 1 = K' := by
              rcases Nat.lt_or_eq_of_le (show k + 1 ≤ K' by omega) with h1 | h1
              · exfalso
                refine (unhide HK).no (k + 1) (by omega) h1 ?_
                rw [(unhide HWK).next]
                have := unhide HUX
                have := unhide HUY
                have := unhide HEQ
                exact ⟨by show px + wx d = (x : Int); omega, by show py + wy d = (y : Int); omega⟩
              · exact h1
            rw [← hkK]
            exact ⟨rfl, rfl⟩
          · have he : ∀ X, (binOp .eql 46 (.agg #[.int .i64 ux, .int .i64 uy]) (.agg #[.int .i64 (x0 : Int), .int .i64 (y0 : Int)])).run Try.prog X = .ok (.bool false) X := fun X => by rw [eql46, decide_eq_false heq]
            have hk1 : k + 1 < K := by
              rcases Nat.lt_or_eq_of_le (show k + 1 ≤ K by omega) with h1 | h1
              · exact h1
              · exfalso
                have h2 := (unhide HK).at'
                rw [← h1, (unhide HWK).next] at h2
                have := unhide HUX
                have := unhide HUY
                exact heq ⟨by have : px + wx d = (x0 : Int) := h2.1; omega, by have : py + wy d = (y0 : Int) := h2.2; omega⟩
            obtain ⟨lx, hlx⟩ : ∃ lx, ux + qx d = lx := ⟨_, rfl⟩
            obtain ⟨ly, hly⟩ : ∃ ly, uy + qy d = ly := ⟨_, rfl⟩
            obtain ⟨rx, hrx⟩ : ∃ rx, ux + qx (rt d) = rx := ⟨_, rfl⟩
            obtain ⟨ry, hry⟩ : ∃ ry, uy + qy (rt d) = ry := ⟨_, rfl⟩
            have HL : Hid (∀ X, Calls Try.prog 57 #[.agg #[.int .i64 ux, .int .i64 uy], .int .i64 (wx d), .int .i64 (wy d), .bool true] X fun e w' => e = .returned (.tuple #[.int .i64 lx, .int .i64 ly]) ∧ Below X.heap.size X w') := hide (fun X => by rw [← hlx, ← hly]; exact ahM_any d hd4 true ux uy X hu1 hu2)
            have HRR : Hid (∀ X, Calls Try.prog 57 #[.agg #[.int .i64 ux, .int .i64 uy], .int .i64 (wx d), .int .i64 (wy d), .bool false] X fun e w' => e = .returned (.tuple #[.int .i64 rx, .int .i64 ry]) ∧ Below X.heap.size X w') := hide (fun X => by rw [← hrx, ← hry]; exact ahM_any d hd4 false ux uy X hu1 hu2)
            have HCL : Hid (col (Ab W H T z) ⟨px + wx d, py + wy d, d⟩ d = Ab W H T z lx ly) := hide (by rw [unhide HUX, unhide HUY, ← hlx, ← hly]; rfl)
            have HCR : Hid (col (Ab W H T z) ⟨px + wx d, py + wy d, d⟩ (rt d) = Ab W H T z rx ry) := hide (by rw [unhide HUX, unhide HUY, ← hrx, ← hry]; rfl)
            have wl := w_lf hd4
            have wr' := w_rt hd4
            have HWL := hide wl
            have HWR := hide wr'
            have n1 : IntKind.i64.wrap (-(wy d)) = wx (lf d) := (wrap_i (by omega) (by omega)).trans wl.1.symm
            have n2 : IntKind.i64.wrap (-(wx d)) = wy (rt d) := (wrap_i (by omega) (by omega)).trans wr'.2.1.symm
            clear heq hlx hly hrx hry wl wr'
            go_upto_region 23 with fail
            go_wp2_with fail
            refine (unhide HL _).mono ?_
            rintro e W2 ⟨rfl, hb2⟩
            have H11c := hide ((unhide H11b).bel hb2)
            have H6c := hide ((unhide H6b).bel hb2)
            have H0c := hide ((unhide H0b).bel hb2)
            have HRc := hide ((unhide HRb).below hb2)
            have HBc := hide (bc (unhide HBb) hb2)
            have HQc := hide (Nat.le_trans (unhide HQb) hb2.size)
            clear hb2 H11b H6b H0b HRb HBb c0 c1 f0 f1 he h11lt
            have c0 := (unhide H11c).cell (m := 0) rfl
            have c1 := (unhide H11c).cell (m := 1) rfl
            go_wp2_with fail
            refine (unhide HRR _).mono ?_
            rintro e W3 ⟨rfl, hb2⟩
            have H11d := hide ((unhide H11c).bel hb2)
            have H6d := hide ((unhide H6c).bel hb2)
            have H0d := hide ((unhide H0c).bel hb2)
            have HRd := hide ((unhide HRc).below hb2)
            have HBd := hide (bc (unhide HBc) hb2)
            have HQd := hide (Nat.le_trans (unhide HQc) hb2.size)
            clear hb2 H11c H6c H0c HRc HBc c0 c1
            have k0 := (unhide H0d).cell (m := 0) rfl
            have k1 := (unhide H0d).cell (m := 1) rfl
            have k2 := (unhide H0d).cell (m := 2) rfl
            go_wp2_with fail
            refine (unhide HAB lx ly _ (unhide HBd)).mono ?_
            rintro e W4 ⟨rfl, hb2⟩
            have H11e := hide ((unhide H11d).bel hb2)
            have H6e := hide ((unhide H6d).bel hb2)
            have H0e := hide ((unhide H0d).bel hb2)
            have HRe := hide ((unhide HRd).below hb2)
            have HBe := hide (bc (unhide HBd) hb2)
            have HQe := hide (Nat.le_trans (unhide HQd) hb2.size)
            clear hb2 H11d H6d H0d HRd HBd k0 k1 k2
            have c0 := (unhide H11e).cell (m := 0) rfl
            have c1 := (unhide H11e).cell (m := 1) rfl
            cases hcl : Ab W H T z lx ly with
            | false =>
              have HND : Hid (nxd (Ab W H T z) ⟨px + wx d, py + wy d, d⟩ = lf d) := hide (by
                unfold nxd
                rw [if_pos ((unhide HCL).trans hcl)])
              clear hcl
              go_wp2_with (at_builtin; refine unhide ?_)
              refine hide ?_
              refine wpList_append_own _ rfl _ _ 41 rfl Bq 46 iP _ 2 16 Try.underlying41 hi1 hp0 hp1 hp2 rfl (by decide) _ _ _ rfl ((unhide HRe).alloc _) _ 1 1 ([ux, uy].map (Value.int .i64)) rfl rfl (by first | exact news_cells _ _ rfl | exact news_cells _ _ (by simp) | exact news_drew _ _ (by simp)) ints_one (by unfold maxLen; omega) (by omega) (by have := unhide HQe; simp; omega) ?_
              intro v' wz hown' hgrow _
              have hszw := unhide HQe
              have R := hide (own_more (wr := W4) (news := [ux, uy]) (by repeat (first | exact Below.refl _ _ | refine Below.alloc ?_ (by first | omega | (simp; omega)) _ | refine Below.drew ?_)) (by simp; omega) (unhide HRe) hown' hgrow)
              clear hown' hgrow
              go_wp2_with fail
              go_roundg (K - (k + 1))
              case measure => have := unhide HGK; omega
              case rel => exact ⟨k + 1, lf d, l + 1, ux, uy, by first | rfl | rw [(unhide HWL).1], by first | rfl | rw [(unhide HWL).2.1], rfl, by omega, by have h9 := (unhide HWK).go hk1 (unhide HND); rw [unhide HUX, unhide HUY] at h9; exact h9, by rw [crn_turn (unhide HWK) (unhide HND) (unhide HWL).2.2, unhide HUX, unhide HUY]; exact (unhide R).1, by have := (unhide R).2.size; omega, (unhide H11e).below (unhide R).2 hq11, (unhide H6e).below (unhide R).2 (by omega), (unhide H0e).below (unhide R).2 (by omega), (unhide HBe).trans ((unhide R).2.mono (by omega))⟩
            | true =>
              rw [hcl] at HCL
              clear hcl
              have k0 := (unhide H0e).cell (m := 0) rfl
              have k1 := (unhide H0e).cell (m := 1) rfl
              have k2 := (unhide H0e).cell (m := 2) rfl
              go_wp2_with fail
              refine (unhide HAB rx ry _ (unhide HBe)).mono ?_
              rintro e W5 ⟨rfl, hb2⟩
              have H11f := hide ((unhide H11e).bel hb2)
              have H6f := hide ((unhide H6e).bel hb2)
              have H0f := hide ((unhide H0e).bel hb2)
              have HRf := hide ((unhide HRe).below hb2)
              have HBf := hide (bc (unhide HBe) hb2)
              have HQf := hide (Nat.le_trans (unhide HQe) hb2.size)
              clear hb2 H11e H6e H0e HRe HBe k0 k1 k2 c0 c1
              have c0 := (unhide H11f).cell (m := 0) rfl
              have c1 := (unhide H11f).cell (m := 1) rfl
              cases hcr : Ab W H T z rx ry with
              | true =>
                have HND : Hid (nxd (Ab W H T z) ⟨px + wx d, py + wy d, d⟩ = rt d) := hide (by
                  unfold nxd
                  rw [if_neg (by rw [unhide HCL]; simp), if_pos ((unhide HCR).trans hcr)])
                clear hcr
                go_wp2_with (at_builtin; refine unhide ?_)
                refine hide ?_
                refine wpList_append_own _ rfl _ _ 41 rfl Bq 46 iP _ 2 16 Try.underlying41 hi1 hp0 hp1 hp2 rfl (by decide) _ _ _ rfl ((unhide HRf).alloc _) _ 1 1 ([ux, uy].map (Value.int .i64)) rfl rfl (by first | exact news_cells _ _ rfl | exact news_cells _ _ (by simp) | exact news_drew _ _ (by simp)) ints_one (by unfold maxLen; omega) (by omega) (by have := unhide HQf; simp; omega) ?_
                intro v' wz hown' hgrow _
                have hszw := unhide HQf
                have R := hide (own_more (wr := W5) (news := [ux, uy]) (by repeat (first | exact Below.refl _ _ | refine Below.alloc ?_ (by first | omega | (simp; omega)) _ | refine Below.drew ?_)) (by simp; omega) (unhide HRf) hown' hgrow)
                clear hown' hgrow
                go_wp2_with fail
                go_roundg (K - (k + 1))
                case measure => have := unhide HGK; omega
                case rel => exact ⟨k + 1, rt d, l + 1, ux, uy, by first | rfl | rw [(unhide HWR).1], by first | rfl | rw [(unhide HWR).2.1], rfl, by omega, by have h9 := (unhide HWK).go hk1 (unhide HND); rw [unhide HUX, unhide HUY] at h9; exact h9, by rw [crn_turn (unhide HWK) (unhide HND) (unhide HWR).2.2, unhide HUX, unhide HUY]; exact (unhide R).1, by have := (unhide R).2.size; omega, (unhide H11f).below (unhide R).2 hq11, (unhide H6f).below (unhide R).2 (by omega), (unhide H0f).below (unhide R).2 (by omega), (unhide HBf).trans ((unhide R).2.mono (by omega))⟩
              | false =>
                have HND : Hid (nxd (Ab W H T z) ⟨px + wx d, py + wy d, d⟩ = d) := hide (by
                  unfold nxd
                  rw [if_neg (by rw [unhide HCL]; simp), if_neg (by rw [unhide HCR, hcr]; simp)])
                clear hcr
                go_wp2_with fail
                go_roundg (K - (k + 1))
                case measure => have := unhide HGK; omega
                case rel => exact ⟨k + 1, d, l, ux, uy, rfl, rfl, rfl, by omega, by have h9 := (unhide HWK).go hk1 (unhide HND); rw [unhide HUX, unhide HUY] at h9; exact h9, by rw [crn_stay (unhide HWK) (unhide HND)]; exact unhide HRf, unhide HQf, unhide H11f, unhide H6f, unhide H0f, unhide HBf⟩
end Go.Proofs.Ytjhldjojkaphkaa

namespace Go.Proofs.Ytjhldjojkaphkaa
open Go.ChangeShapes Go.WideShapes Go.ChangeAt Go.RowKit Go.Shelf
attribute [local go_sem] Oper.semAt_some
set_option linter.unusedVariables false
set_option linter.unusedSimpArgs false

/-- between two rounds: the function's own boxes; no column so far is above -/
structure Lk (w : World) (B W H n c g po : Nat) (T : List Int) (z : Int) (O : Nat → Prop) (k : Nat) (X : World) : Prop where
  far : ∀ b, O b → B ≤ b
  big : B ≤ X.heap.size
  v2 : vb X w.heap.size 25 [.int .i64 (W : Int), .int .i64 (H : Int), .slice (some ⟨g, po, none⟩) n c]
  v3 : vb X (w.heap.size + 1) 3 [.int .i64 z]
  v4 : vb X (w.heap.size + 1 + 1) 41 [.slice none 0 0]
  v5 : vb X (w.heap.size + 1 + 1 + 1) 3 [.int .i64 0]
  bel : Below w.heap.size w X
  no : ∀ i, i < k → ¬ z < tp T i
theorem Lk.on {w : World} {B W H n c g po : Nat} {T : List Int} {z : Int} {O O' : Nat → Prop} {k : Nat} {X Y : World} (h : Lk w B W H n c g po T z O k X) (hB : w.heap.size + 4 ≤ B) (hg : Grw O X Y) (hO : ∀ b, O' b → O b ∨ X.heap.size ≤ b) : Lk w B W H n c g po T z O' k Y := by
  have hb : Below B X Y := hg.bel h.big h.far
  exact ⟨fun b hb => (hO b hb).elim (h.far b) (fun h1 => Nat.le_trans h.big h1), Nat.le_trans h.big hg.size, h.v2.below hb (by omega), h.v3.below hb (by omega), h.v4.below hb (by omega), h.v5.below hb (by omega), h.bel.trans (hb.mono (by omega)), h.no⟩
/-- behind the round that has ended it -/
structure Lx (w : World) (B W H : Nat) (T : List Int) (z : Int) (O : Nat → Prop) (k : Nat) (X : World) : Prop where
  far : ∀ b, O b → B ≤ b
  big : B ≤ X.heap.size
  got : ∃ v l L, vb X (w.heap.size + 1 + 1) 41 [v] ∧ vb X (w.heap.size + 1 + 1 + 1) 3 [.int .i64 0] ∧ Row X B 46 2 v l L ∧ (∀ q, v.ownBlock = some q → ¬ O q) ∧ Otl W H T z 0 L
  bel : Below w.heap.size w X
theorem Lx.on {w : World} {B W H : Nat} {T : List Int} {z : Int} {O O' : Nat → Prop} {k : Nat} {X Y : World} (h : Lx w B W H T z O k X) (hB : w.heap.size + 4 ≤ B) (hg : Grw O X Y) (hO : ∀ b, O' b → O b ∨ X.heap.size ≤ b) : Lx w B W H T z O' k Y := by
  have hb : Below B X Y := hg.bel h.big h.far
  obtain ⟨v, l, L, h4, h5, hr, hn, ho⟩ := h.got
  exact ⟨fun b hb => (hO b hb).elim (h.far b) (fun h1 => Nat.le_trans h.big h1), Nat.le_trans h.big hg.size, ⟨v, l, L, h4.below hb (by omega), h5.below hb (by omega), hr.kept' (fun q hq => hg.block q (hr.lt q hq).2 (hn q hq)), fun q hq hq' => (hO q hq').elim (hn q hq) (fun h1 => by have := (hr.lt q hq).2; omega), ho⟩, h.bel.trans (hb.mono (by omega))⟩
set_option maxRecDepth 100000 in
set_option maxHeartbeats 8000000 in
theorem ctP_good (W H n c g po : Nat) (T : List Int) (z : Int) (w : World) (hO : FOk (W : Int) (H : Int) T) (hn : n = W * H) (hz : 0 ≤ z ∧ z ≤ 23) (hF : Fd w g po n c T) :
    Calls Try.prog 15 #[fldV (W : Int) (H : Int) (some ⟨g, po, none⟩) n c, .int .i64 z] w fun e w' => (∃ (v : Value) (l : Nat) (L : List Int) (E : Int), e = .returned (.tuple #[v, .int .i64 E]) ∧ Row w' w.heap.size 46 2 v l L ∧ Otl W H T z E L) ∧ Below w.heap.size w w' := by
  obtain ⟨_, _, ea, eb, hW1, hW, hH1, hH, _⟩ := hO.nat
  cases Int.natCast_inj.1 ea
  cases Int.natCast_inj.1 eb
  have hfo : fokB (W : Int) (H : Int) T = true := decide_eq_true hO
  have HFO := hide (fun X (hX : Below w.heap.size w X) => fokP_any (W : Int) (H : Int) (some ⟨g, po, none⟩) g po n c T X hF.len (by have := hF.cap; have := hF.top; omega) (hF.bel hX).its)
  rw [hfo] at HFO
  have HBT := hide (fun X => bt_any z 0 23 X)
  have ez : (decide (0 ≤ z) && decide (z ≤ 23)) = true := by simp [hz]
  rw [ez] at HBT
  have HRI := hide (fun X => risM W H n c g po X)
  have HFd := hide (fun X (hX : Below w.heap.size w X) => hF.bel hX)
  have hg := hF.lt
  have hbl : Below w.heap.size w ((((w.alloc (.cells #[.int .i64 (W : Int), .int .i64 (H : Int), .slice (some ⟨g, po, none⟩) n c] 25)).alloc (.cells #[.int .i64 z] 3)).alloc (.cells #[.slice none 0 0] 41)).alloc (.cells #[.int .i64 0] 3)) := ba (ba (ba (ba (Below.refl _ _) _) _) _) _
  have HB0 := hide hbl
  have V2 := hide ((vb_new1 w 25 [.int .i64 (W : Int), .int .i64 (H : Int), .slice (some ⟨g, po, none⟩) n c] (.cells #[.int .i64 z] 3)).bel (ba (ba (Below.refl _ _) (.cells #[.slice none 0 0] 41)) (.cells #[.int .i64 0] 3)))
  have V3 := hide ((vb_new2 w 3 [.int .i64 z] (.cells #[.int .i64 (W : Int), .int .i64 (H : Int), .slice (some ⟨g, po, none⟩) n c] 25)).bel (ba (ba (Below.refl _ _) (.cells #[.slice none 0 0] 41)) (.cells #[.int .i64 0] 3)))
  have V4 := hide ((vb_new ((w.alloc (.cells #[.int .i64 (W : Int), .int .i64 (H : Int), .slice (some ⟨g, po, none⟩) n c] 25)).alloc (.cells #[.int .i64 z] 3)) 41 [.slice none 0 0] (w.heap.size + 1 + 1) (by simp)).bel (ba (Below.refl _ _) (.cells #[.int .i64 0] 3)))
  have V5 := hide (vb_new (((w.alloc (.cells #[.int .i64 (W : Int), .int .i64 (H : Int), .slice (some ⟨g, po, none⟩) n c] 25)).alloc (.cells #[.int .i64 z] 3)).alloc (.cells #[.slice none 0 0] 41)) 3 [.int .i64 0] (w.heap.size + 1 + 1 + 1) (by simp))
  unfold fldV at *
  have HN := hide hn
  have HWY := hide (fun (x y : Nat) X (hX : Fd X g po n c T) hx hy => tpP_any W H n c g po T x y X hW hH hn hX hx hy)
  have HTF := hide (fun (m b1 b2 b3 n₀ x0 y0 K : Nat) (X : World) h1 h2 h3 hgn hn₀ hv1 hv2 hv3 hF hfs hK => tfS m W H n c g po b1 b2 b3 n₀ x0 y0 K T z X hW1 hW hH1 hH hn h1 h2 h3 hgn hn₀ hv1 hv2 hv3 hF hfs hK)
  unfold fldV at *
  clear hF hfo ea eb hO hbl ez hn
  refine (callsIn_wide (n := 0)).1 ?_
  refine callsIn_of_wp_marks Try.func15 rfl trivial ?_ rfl
  simp only [Try.ntmps15, List.size_toArray, List.length_cons, List.length_nil, Nat.reduceAdd, Nat.reduceSub, Array.replicate_succ, Array.replicate_zero, List.push_toArray, List.append_toArray, List.nil_append, List.cons_append]
  gi_wp2
  refine ⟨trivial, rfl, (callsIn_wide.2 (unhide HFO _ (unhide HB0))).mono ?_⟩
  rintro _ W1 ⟨rfl, hb1⟩
  have U2 := hide ((unhide V2).bel hb1)
  have U3 := hide ((unhide V3).bel hb1)
  have U4 := hide ((unhide V4).bel hb1)
  have U5 := hide ((unhide V5).bel hb1)
  have HB1 := hide (bc (unhide HB0) hb1)
  clear hb1 V2 V3 V4 V5 HB0 HFO
  have z0 := (unhide U3).cell (m := 0) rfl
  gi_wp2
  refine ⟨trivial, rfl, (callsIn_wide.2 (unhide HBT _)).mono ?_⟩
  rintro _ Wq ⟨rfl, hq⟩
  rw [hq]
  clear hq
  have k0 := (unhide U2).cell (m := 0) rfl
  have k1 := (unhide U2).cell (m := 1) rfl
  have k2 := (unhide U2).cell (m := 2) rfl
  gi_wp2
  refine ⟨trivial, rfl, (callsIn_wide.2 (unhide HRI _)).mono ?_⟩
  rintro _ Wq ⟨rfl, hq⟩
  rw [hq]
  clear hq
  have hA := (ba (Below.refl W1.heap.size W1) (.cells #[.int .i64 (W : Int), .int .i64 (H : Int), .slice (some ⟨g, po, none⟩) n c] 25))
  have T2 := hide ((unhide U2).bel hA)
  have T3 := hide ((unhide U3).bel hA)
  have T4 := hide ((unhide U4).bel hA)
  have T5 := hide ((unhide U5).bel hA)
  have HB2 := hide (bc (unhide HB1) hA)
  have TR := hide (vb_new W1 25 [.int .i64 (W : Int), .int .i64 (H : Int), .slice (some ⟨g, po, none⟩) n c] W1.heap.size rfl)
  have h5lt := (unhide T5).lt
  have hW1s := (unhide U5).lt
  clear hA U2 U3 U4 U5 HB1 HRI HBT k0 k1 k2 z0
  gi_wp2
  generalize hWL : W1.alloc (.cells #[.int .i64 (W : Int), .int .i64 (H : Int), .slice (some ⟨g, po, none⟩) n c] 25) = WL at *
  have hWs : W1.heap.size < WL.heap.size := by rw [← hWL]; simp
  clear hWL
  obtain ⟨B, hB⟩ : ∃ B, WL.heap.size = B := ⟨_, rfl⟩
  have HBB := hide hB
  have hB4 : w.heap.size + 4 ≤ B := by omega
  refine range_seq (n₀ := B) (N := W * H) rfl (fun h => by cases h) (gf := 86) (lb := #[.pointer (some ⟨W1.heap.size, 0, none⟩)]) rfl trivial (enters_of Try.func86 (by kernel_rfl) rfl) (by omega) (risS 0 W H n c g po W1.heap.size B WL hW1 hW hH (by omega) (by omega) (unhide TR)) (Below.refl _ _) (fun _ => rfl) (Lk w B W H n c g po T z) (Lx w B W H T z) (fun O O' k A B h hg hO => h.on hB4 hg hO) (fun O O' k A B h hg hO => h.on hB4 hg hO)
    ⟨fun _ h => h.elim, by omega, unhide T2, unhide T3, unhide T4, unhide T5, unhide HB2, fun i hi => absurd hi (Nat.not_lt_zero _)⟩
    (fun O k a' X => ∃ b6, vb X b6 46 [.int .i64 ((k % W : Nat) : Int), .int .i64 ((k / W : Nat) : Int)] ∧ ¬ O b6 ∧ B ≤ b6 ∧ a' = ({ tmps := #[.agg #[.int .i64 (W : Int), .int .i64 (H : Int), .slice (some ⟨g, po, none⟩) n c], .int .i64 z, .pointer (some ⟨w.heap.size, 0, none⟩), .pointer (some ⟨w.heap.size + 1, 0, none⟩), .pointer (some ⟨w.heap.size + 1 + 1, 0, none⟩), .pointer (some ⟨w.heap.size + 1 + 1 + 1, 0, none⟩), .pointer (some ⟨b6, 0, none⟩), .bool false, .agg #[.int .i64 (W : Int), .int .i64 (H : Int), .slice (some ⟨g, po, none⟩) n c], .bool true, .bool false, .bool false, .int .i64 z, .bool true, .bool false, .agg #[.int .i64 (W : Int), .int .i64 (H : Int), .slice (some ⟨g, po, none⟩) n c], .func (.func 86) #[] #[.pointer (some ⟨W1.heap.size, 0, none⟩)], .agg #[.int .i64 ((k % W : Nat) : Int), .int .i64 ((k / W : Nat) : Int)], undef, undef, undef, undef, undef, undef, undef, undef, undef, undef], defers := [] } : Act))
    (fun O k a' A B' h hg => by obtain ⟨b6, h1, h2, h3, h4⟩ := h; exact ⟨b6, (hg.block _ h1.lt h2).trans h1, h2, h3, h4⟩) ?assign ?body ?done ?stop
  case assign =>
    intro l O k X K hk hO hi hK
    have HK := hide hK
    have HI := hide hi
    clear hK hi
    unfold ptk
    gi_wp2
    have hA : Below X.heap.size X (X.alloc (.cells #[.int .i64 ((k % W : Nat) : Int), .int .i64 ((k / W : Nat) : Int)] 46)) := ba (Below.refl _ _) _
    exact unhide HK _ _ (Kpt.of_bel hA (unhide HI).big) ((unhide HI).on hB4 (Grw.of_bel hA) (fun b hb => .inl hb)) ⟨X.heap.size, vb_new X 46 _ _ rfl, fun h => by have := (hO _ h).2; omega, (unhide HI).big, rfl⟩
  case body =>
    rintro l O k a' X hk hO hi ⟨b6, h6, hn6, hl6, rfl⟩
    have HI := hide hi
    have H6 := hide h6
    have hWp : 0 < W := by omega
    obtain ⟨x, hx⟩ : ∃ x, k % W = x := ⟨_, rfl⟩
    obtain ⟨y, hy⟩ : ∃ y, k / W = y := ⟨_, rfl⟩
    have hxW : x < W := by rw [← hx]; exact Nat.mod_lt _ hWp
    have hyH : y < H := by rw [← hy]; exact Nat.div_lt_of_lt_mul hk
    have hxy : y * W + x = k := by rw [← hx, ← hy, Nat.mul_comm]; exact Nat.div_add_mod k W
    rw [hx, hy] at H6 ⊢
    have HXY := hide hxy
    have HFx := hide (unhide HFd X hi.bel)
    obtain ⟨t, ht⟩ : ∃ t, tp T k = t := ⟨_, rfl⟩
    have HTT := hide ht
    have HT : Hid (∀ Y, Below X.heap.size X Y → Calls Try.prog 52 #[.agg #[.int .i64 (W : Int), .int .i64 (H : Int), .slice (some ⟨g, po, none⟩) n c], .agg #[.int .i64 (x : Int), .int .i64 (y : Int)]] Y fun e w' => e = .returned (.int .i64 t) ∧ Below Y.heap.size Y w') := hide (fun Y hY => by have h9 := unhide HWY x y Y ((unhide HFx).bel hY) hxW hyH; rw [hxy, ht] at h9; exact h9)
    have k0 := hi.v2.cell (m := 0) rfl
    have k1 := hi.v2.cell (m := 1) rfl
    have k2 := hi.v2.cell (m := 2) rfl
    have z0 := hi.v3.cell (m := 0) rfl
    have p0 := (unhide H6).cell (m := 0) rfl
    have p1 := (unhide H6).cell (m := 1) rfl
    have hmx : Try.prog.follows .mixedOrders = true := by kernel_rfl
    clear hi h6 hx hy hxy ht
    gi_wp2
    gi_region_with_o (refine ⟨trivial, rfl, ?_⟩; refine (CallsIn.inRound l (callsIn_wide.2 (unhide HT _ (by repeat (first | exact Below.refl _ _ | refine Below.drew ?_))))).mono ?_; rintro e w' ⟨rfl, hb⟩; have HBq := hide (show Below X.heap.size X w' from bc (by repeat (first | exact Below.refl _ _ | refine Below.drew ?_)) hb); have zz := keep1 (unhide HBq) z0; clear hb)
    all_goals
      have HIq := hide ((unhide HI).on hB4 (Grw.of_bel (unhide HBq)) (fun b hb => .inl hb))
      have H6q := hide ((unhide H6).bel (unhide HBq))
      have HKq := hide (Kpt.of_bel (O := O) (unhide HBq) (unhide HI).big)
      have hszq := (unhide HBq).size
      clear k0 k1 k2 z0 p0 p1
      by_cases hzt : z < t
      · rw [decide_eq_true hzt]
        have hfst : Fst W H T z x y := ⟨hxW, hyH, by rw [unhide HXY, unhide HTT]; exact hzt, fun u v hu hv hlt => (unhide HI).no _ (by have := unhide HXY; omega)⟩
        obtain ⟨K, hK⟩ := Bck.ex hW hH (Ab_in (W := W) (H := H) (T := T) (z := z)) hfst.ok.1
        have HFS := hide hfst
        have HKK := hide hK
        have k0 := (unhide HIq).v2.cell (m := 0) rfl
        have k1 := (unhide HIq).v2.cell (m := 1) rfl
        have k2 := (unhide HIq).v2.cell (m := 2) rfl
        have p0 := (unhide H6q).cell (m := 0) rfl
        have p1 := (unhide H6q).cell (m := 1) rfl
        have HTM := hide (fun Y => trfM W H n c g po (x : Int) (y : Int) z Y)
        unfold fldV at HTM
        clear hzt hfst hK
        gi_wp2
        refine ⟨trivial, rfl, (CallsIn.inRound l (callsIn_wide.2 (unhide HTM _))).mono ?_⟩
        rintro _ Wq ⟨rfl, hq⟩
        rw [hq]
        clear hq HTM k0 k1 k2 p0 p1 zz
        have hbl : Below w'.heap.size w' (((w'.alloc (.cells #[.int .i64 (W : Int), .int .i64 (H : Int), .slice (some ⟨g, po, none⟩) n c] 25)).alloc (.cells #[.int .i64 (x : Int), .int .i64 (y : Int)] 46)).alloc (.cells #[.int .i64 z] 3)) := ba (ba (ba (Below.refl _ _) _) _) _
        have G2 := ((vb_new1 w' 25 [.int .i64 (W : Int), .int .i64 (H : Int), .slice (some ⟨g, po, none⟩) n c] (.cells #[.int .i64 (x : Int), .int .i64 (y : Int)] 46)).bel (ba (Below.refl _ _) (.cells #[.int .i64 z] 3)))
        have G1 := ((vb_new2 w' 46 [.int .i64 (x : Int), .int .i64 (y : Int)] (.cells #[.int .i64 (W : Int), .int .i64 (H : Int), .slice (some ⟨g, po, none⟩) n c] 25)).bel (ba (Below.refl _ _) (.cells #[.int .i64 z] 3)))
        have G3 := (vb_new ((w'.alloc (.cells #[.int .i64 (W : Int), .int .i64 (H : Int), .slice (some ⟨g, po, none⟩) n c] 25)).alloc (.cells #[.int .i64 (x : Int), .int .i64 (y : Int)] 46)) 3 [.int .i64 z] (w'.heap.size + 1 + 1) (by simp))
        have hsq := unhide HTF 0 (w'.heap.size + 1) w'.heap.size (w'.heap.size + 1 + 1) (w'.heap.size + 1 + 1 + 1) x y K _ (by omega) (by omega) (by omega) (by have := (unhide HFx).lt; omega) (by simp) G1 G2 G3 (((unhide HFx).bel (unhide HBq)).bel hbl) (unhide HFS) (unhide HKK)
        have HCL := hide (clS 88 #[.pointer (some ⟨w'.heap.size + 1, 0, none⟩), .pointer (some ⟨w'.heap.size, 0, none⟩), .pointer (some ⟨w'.heap.size + 1 + 1, 0, none⟩)] (crn (Ab W H T z) ⟨(x : Int), (y : Int), 3⟩ K) (ctn (Ab W H T z) ⟨(x : Int), (y : Int), 3⟩ K) (w'.heap.size + 1 + 1 + 1) _ (Nat.le_trans (ctn_le _ _ K) (unhide HKK).le) (crn_len _ _ K) (by simp) (enters_of Try.func88 (by kernel_rfl) rfl) hsq)
        have HBr := hide hbl
        clear hbl G1 G2 G3 hsq
        gi_wp2
        refine ⟨trivial, rfl, (CallsIn.inRound l (callsIn_wide.2 (unhide HCL))).mono ?_⟩
        rintro _ W7 ⟨v, rfl, hr, hb7⟩
        have HB7 := hide (bc (unhide HBr) hb7)
        have HIr := hide ((unhide HIq).on hB4 (Grw.of_bel (unhide HB7)) (fun b hb => .inl hb))
        have HR7 := hide (hr.mono (show B ≤ _ by have := (unhide HIq).big; have := (unhide HBr).size; omega))
        have HNO : Hid (∀ q, v.ownBlock = some q → ¬ O q) := hide (fun q hq ho => by have h1 := (hr.lt q hq).1; have h2 := (hO q ho).2; have := (unhide HBr).size; omega)
        obtain ⟨u, cp, hv, _⟩ := hr.form
        clear hb7 hr
        subst hv
        have c4 := (unhide HIr).v4.cell (m := 0) rfl
        have f4 := (unhide HIr).v4.frozen
        have c5 := (unhide HIr).v5.cell (m := 0) rfl
        have f5 := (unhide HIr).v5.frozen
        clear HCL HBr
        gi_wp2
        have e45 : w.heap.size + 1 + 1 ≠ w.heap.size + 1 + 1 + 1 := by omega
        refine ⟨fun b hb hbs => ?_, (unhide HIr).far, ?_, ⟨_, _, _, ((unhide HIr).v4.set 0 _).ne e45, (((unhide HIr).v5.ne e45.symm).set 0 _), (unhide HR7).kept' (fun q hq => ?_), unhide HNO, ⟨fun hno => absurd (unhide HFS).ab (hno _ (ix_lt hxW hyH)), fun x' y' K' hF' hB' => ?_⟩⟩, ((unhide HIr).bel.setCell (p := ⟨w.heap.size + 1 + 1, 0, none⟩) (by simp; omega) _).setCell (p := ⟨w.heap.size + 1 + 1 + 1, 0, none⟩) (by simp; omega) _⟩
        · have h1 := (unhide HIr).far b hb
          have m1 : b ≠ w.heap.size + 1 + 1 + 1 := by omega
          have m2 : b ≠ w.heap.size + 1 + 1 := by omega
          exact ((Below.heap_setCell _ _ _ _ m1).trans (Below.heap_setCell _ _ _ _ m2)).trans (((unhide HB7).block b (by omega)).trans ((unhide HBq).block b hbs))
        · have := (unhide HIr).big
          simpa using this
        · have h1 := ((unhide HR7).lt q hq).1
          have m1 : q ≠ w.heap.size + 1 + 1 + 1 := by omega
          have m2 : q ≠ w.heap.size + 1 + 1 := by omega
          exact (Below.heap_setCell _ _ _ _ m1).trans (Below.heap_setCell _ _ _ _ m2)
        · obtain ⟨rfl, rfl⟩ := hF'.uniq (unhide HFS)
          obtain rfl := hB'.uniq (unhide HKK)
          exact ⟨rfl, rfl⟩
      · rw [decide_eq_false hzt]
        have HNZ := hide hzt
        clear hzt
        gi_wp2
        refine ⟨unhide HKq, { unhide HIq with no := fun i hi => ?_ }⟩
        by_cases h9 : i = k
        · rw [h9, unhide HTT]
          have := unhide HNZ
          omega
        · exact (unhide HIq).no i (by omega)
  case done =>
    intro O D X hD hi hK hOD
    have HI := hide hi
    have HK := hide hK
    have c4 := hi.v4.cell (m := 0) rfl
    have f4 := hi.v4.frozen
    have c5 := hi.v5.cell (m := 0) rfl
    have f5 := hi.v5.frozen
    have e45 : w.heap.size + 1 + 1 ≠ w.heap.size + 1 + 1 + 1 := by omega
    have V4 := hide ((hi.v4.set 0 (.slice none 0 0)).ne (o := 0) (x := .int .i64 8) e45)
    have V5 := hide ((hi.v5.ne (o := 0) (x := .slice none 0 0) e45.symm).set 0 (.int .i64 8))
    clear hi hK
    gi_wp2
    have hD4 : D ≠ w.heap.size + 1 + 1 := by omega
    have hD5 : D ≠ w.heap.size + 1 + 1 + 1 := by omega
    have hK9 : ((X.setCell ⟨w.heap.size + 1 + 1, 0, none⟩ (.slice none 0 0)).setCell ⟨w.heap.size + 1 + 1 + 1, 0, none⟩ (.int .i64 8)).heap[D]? = some (.deferred (some [])) := ((Below.heap_setCell _ _ _ _ hD5).trans (Below.heap_setCell _ _ _ _ hD4)).trans (unhide HK)
    refine ⟨by simp, .inl ⟨_, _, rfl, run_takeDeferred hK9, ?_⟩⟩
    have s4 := (vb.cell (show vb (((X.setCell ⟨w.heap.size + 1 + 1, 0, none⟩ (.slice none 0 0)).setCell ⟨w.heap.size + 1 + 1 + 1, 0, none⟩ (.int .i64 8)).putObj D (.deferred none)) (w.heap.size + 1 + 1) 41 [.slice none 0 0] from (World.putObj_heap_other hD4.symm).trans (unhide V4)) (m := 0) rfl)
    have s5 := (vb.cell (show vb (((X.setCell ⟨w.heap.size + 1 + 1, 0, none⟩ (.slice none 0 0)).setCell ⟨w.heap.size + 1 + 1 + 1, 0, none⟩ (.int .i64 8)).putObj D (.deferred none)) (w.heap.size + 1 + 1 + 1) 3 [.int .i64 8] from (World.putObj_heap_other hD5.symm).trans (unhide V5)) (m := 0) rfl)
    refine ⟨.tuple #[.slice none 0 0, .int .i64 8], by simp [results, Try.results15, go_sem, s4, s5], ⟨_, 0, [], 8, rfl, World.ownsRow_nil _ _ _ _, ⟨fun _ => ⟨rfl, rfl⟩, fun x y K hF _ => absurd hF.ab ((unhide HI).no _ (ix_lt hF.hx hF.hy))⟩⟩, ?_⟩
    exact (((unhide HI).bel.setCell (p := ⟨w.heap.size + 1 + 1, 0, none⟩) (by simp; omega) _).setCell (p := ⟨w.heap.size + 1 + 1 + 1, 0, none⟩) (by simp; omega) _).trans ⟨rfl, rfl, rfl, by simp, fun b hb => World.putObj_heap_other (by omega)⟩
  case stop =>
    intro O D k X hD hk hi hK hOD
    obtain ⟨v, l, L, h4, h5, hr, hnO, ho⟩ := hi.got
    have HI := hide hi
    have HK := hide hK
    have H4 := hide h4
    have H5 := hide h5
    have HR := hide hr
    have HNO := hide hnO
    have HO := hide ho
    clear hi hK h4 h5 hr hnO ho
    gi_wp2
    have hD4 : D ≠ w.heap.size + 1 + 1 := by omega
    have hD5 : D ≠ w.heap.size + 1 + 1 + 1 := by omega
    refine ⟨by simp, .inl ⟨_, _, rfl, run_takeDeferred (unhide HK), ?_⟩⟩
    have s4 := (vb.cell (show vb (X.putObj D (.deferred none)) (w.heap.size + 1 + 1) 41 [v] from (World.putObj_heap_other hD4.symm).trans (unhide H4)) (m := 0) rfl)
    have s5 := (vb.cell (show vb (X.putObj D (.deferred none)) (w.heap.size + 1 + 1 + 1) 3 [.int .i64 0] from (World.putObj_heap_other hD5.symm).trans (unhide H5)) (m := 0) rfl)
    refine ⟨.tuple #[v, .int .i64 0], by simp [results, Try.results15, go_sem, s4, s5], ⟨v, l, L, 0, rfl, ((unhide HR).kept' (fun q hq => World.putObj_heap_other (fun e => unhide HNO q hq (by rw [e]; exact hOD)))).mono (by omega), unhide HO⟩, ?_⟩
    exact (unhide HI).bel.trans ⟨rfl, rfl, rfl, by simp, fun b hb => World.putObj_heap_other (by omega)⟩
end Go.Proofs.Ytjhldjojkaphkaa

namespace Go.Proofs.Ytjhldjojkaphkaa
open Go.ChangeShapes Go.WideShapes Go.ChangeAt Go.RowKit Go.Shelf
attribute [local go_sem] Oper.semAt_some
set_option linter.unusedVariables false
set_option linter.unusedSimpArgs false

theorem Mvs.mono {w : World} {B B' m : Nat} {v : Value} {cs : List Value} (h : Mvs w B v m cs) (hb : B' ≤ B) : Mvs w B' v m cs := by
  refine ⟨h.1, ?_⟩
  rcases h.2 with h1 | ⟨g, cap, cur, hv, hB, r⟩
  · exact .inl h1
  · exact .inr ⟨g, cap, cur, hv, by omega, r⟩
theorem Mvs.full {w : World} {B m : Nat} {v : Value} {cs : List Value} (h : Mvs w B v m cs) (hm : m ≠ 0) : ∃ g cap, v = .slice (some ⟨g, 0, none⟩) m cap ∧ B ≤ g ∧ g < w.heap.size := by
  rcases h.2 with ⟨_, h1⟩ | ⟨g, cap, cur, hv, hB, hh, r⟩
  · exact absurd h1 hm
  · exact ⟨g, cap, hv, hB, (Array.getElem?_eq_some_iff.1 hh).1⟩
def lowP (W H r : Nat) (P : List Int) : List Int := byL (fun x y => hi P (cols W H r x y)) W (W * H)
/-- how the program's Zigzag ends -/
def Zend (w' : World) (B : Nat) (ps : List (Nat × Nat × Int)) (v : Value) (E : Int) : Prop :=
  (1 + 4 * ps.length ≤ 2000 ∧ E = 0 ∧ Mvs w' B v (1 + 4 * ps.length) (zcs ps ps.length)) ∨ (2000 < 1 + 4 * ps.length ∧ E = 18 ∧ v = .slice none 0 0)
set_option maxRecDepth 100000 in
set_option maxHeartbeats 8000000 in
theorem zgP_good (W H n c g po c' g' po' r s : Nat) (A P : List Int) (w : World) (hW1 : 1 ≤ W) (hW : W ≤ 24) (hH1 : 1 ≤ H) (hH : H ≤ 24) (hn : n = W * H) (hr : r ≤ 3) (hs1 : 1 ≤ s) (hs : s ≤ 24)
    (hst : stB (W : Int) (H : Int) A (W : Int) (H : Int) P = true) (hF : Fd w g po n c A) (hF' : Fd w g' po' n c' P) (hO : MOk n ⟨A, 0, 0, 0⟩) (hL : ∀ i, 0 ≤ tp (lowP W H r P) i ∧ tp (lowP W H r P) i ≤ 24) :
    Calls Try.prog 9 #[fldV (W : Int) (H : Int) (some ⟨g, po, none⟩) n c, fldV (W : Int) (H : Int) (some ⟨g', po', none⟩) n c', .int .i64 (r : Int), .int .i64 (s : Int)] w fun e w' => (∃ v E, e = .returned (.tuple #[v, .int .i64 E]) ∧ Zend w' w.heap.size (zzL W H r s A (lowP W H r P)) v E) ∧ Below w.heap.size w w' := by
  have hnb : n ≤ 576 := by rw [hn]; exact Nat.mul_le_mul hW hH
  have hbl : Below w.heap.size w ((((w.alloc (.cells #[.int .i64 (W : Int), .int .i64 (H : Int), .slice (some ⟨g, po, none⟩) n c] 25)).alloc (.cells #[.int .i64 (W : Int), .int .i64 (H : Int), .slice (some ⟨g', po', none⟩) n c'] 25)).alloc (.cells #[.slice none 0 0] 29)).alloc (.cells #[.int .i64 0] 3)) := ba (ba (ba (ba (Below.refl _ _) _) _) _) _
  have HB0 := hide hbl
  have V4 := hide ((vb_new1 w 25 [.int .i64 (W : Int), .int .i64 (H : Int), .slice (some ⟨g, po, none⟩) n c] (.cells #[.int .i64 (W : Int), .int .i64 (H : Int), .slice (some ⟨g', po', none⟩) n c'] 25)).bel (ba (ba (Below.refl _ _) (.cells #[.slice none 0 0] 29)) (.cells #[.int .i64 0] 3)))
  have V5 := hide ((vb_new2 w 25 [.int .i64 (W : Int), .int .i64 (H : Int), .slice (some ⟨g', po', none⟩) n c'] (.cells #[.int .i64 (W : Int), .int .i64 (H : Int), .slice (some ⟨g, po, none⟩) n c] 25)).bel (ba (ba (Below.refl _ _) (.cells #[.slice none 0 0] 29)) (.cells #[.int .i64 0] 3)))
  have V8 := hide ((vb_new ((w.alloc (.cells #[.int .i64 (W : Int), .int .i64 (H : Int), .slice (some ⟨g, po, none⟩) n c] 25)).alloc (.cells #[.int .i64 (W : Int), .int .i64 (H : Int), .slice (some ⟨g', po', none⟩) n c'] 25)) 29 [.slice none 0 0] (w.heap.size + 1 + 1) (by simp)).bel (ba (Below.refl _ _) (.cells #[.int .i64 0] 3)))
  have V9 := hide (vb_new (((w.alloc (.cells #[.int .i64 (W : Int), .int .i64 (H : Int), .slice (some ⟨g, po, none⟩) n c] 25)).alloc (.cells #[.int .i64 (W : Int), .int .i64 (H : Int), .slice (some ⟨g', po', none⟩) n c'] 25)).alloc (.cells #[.slice none 0 0] 29)) 3 [.int .i64 0] (w.heap.size + 1 + 1 + 1) (by simp))
  have HST := hide (fun X (hX : Below w.heap.size w X) => stP_any (W : Int) (H : Int) (some ⟨g, po, none⟩) g po n c A (W : Int) (H : Int) (some ⟨g', po', none⟩) g' po' n c' P X hF.len (by omega) (hF.bel hX).its hF'.len (by omega) (hF'.bel hX).its)
  rw [hst] at HST
  have HRT := hide (fun X => rtP_any (r : Int) X)
  rw [show (decide (0 ≤ (r : Int)) && decide ((r : Int) ≤ 3)) = true by simp; omega] at HRT
  have HBT := hide (fun X => bt_any (s : Int) 1 24 X)
  rw [show (decide (1 ≤ (s : Int)) && decide ((s : Int) ≤ 24)) = true by simp; omega] at HBT
  have HLW := hide (fun X (hX : Below w.heap.size w X) => bt48_any W H r g' po' n c' P X hW1 hW hH1 hH hr hn (hF'.bel hX))
  have HZX := hide (fun (g2 c2 : Nat) X (hX : Below w.heap.size w X) (hF2 : Fd X g2 0 n c2 (lowP W H r P)) => zgX W H n c g po r s g2 c2 A (lowP W H r P) X hW1 hW hH1 hH hr hs1 hs hn (hF.bel hX) hO hF2 hL)
  obtain ⟨ps, hps⟩ : ∃ ps, zzL W H r s A (lowP W H r P) = ps := ⟨_, rfl⟩
  rw [hps] at HZX ⊢
  clear hps
  unfold fldV at *
  have HN := hide hn
  have hg := hF.lt
  have hg' := hF'.lt
  clear hF hF' hst hbl hn hL hO
  refine (callsIn_wide (n := 0)).1 ?_
  refine callsIn_of_wp_marks Try.func9 rfl trivial ?_ rfl
  simp only [Try.ntmps9, List.size_toArray, List.length_cons, List.length_nil, Nat.reduceAdd, Nat.reduceSub, Array.replicate_succ, Array.replicate_zero, List.push_toArray, List.append_toArray, List.nil_append, List.cons_append]
  have a0 := (unhide V4).cell (m := 0) rfl
  have a1 := (unhide V4).cell (m := 1) rfl
  have a2 := (unhide V4).cell (m := 2) rfl
  have e0 := (unhide V5).cell (m := 0) rfl
  have e1 := (unhide V5).cell (m := 1) rfl
  have e2 := (unhide V5).cell (m := 2) rfl
  gi_wp2
  refine ⟨trivial, rfl, (callsIn_wide.2 (unhide HST _ (unhide HB0))).mono ?_⟩
  rintro _ W1 ⟨rfl, hb1⟩
  have U4 := hide ((unhide V4).bel hb1)
  have U5 := hide ((unhide V5).bel hb1)
  have U8 := hide ((unhide V8).bel hb1)
  have U9 := hide ((unhide V9).bel hb1)
  have HB1 := hide (bc (unhide HB0) hb1)
  clear hb1 V4 V5 V8 V9 HB0 HST a0 a1 a2 e0 e1 e2
  gi_wp2
  refine ⟨trivial, rfl, (callsIn_wide.2 (unhide HRT _)).mono ?_⟩
  rintro _ Wq ⟨rfl, hq⟩
  rw [hq]
  clear hq
  gi_wp2
  refine ⟨trivial, rfl, (callsIn_wide.2 (unhide HBT _)).mono ?_⟩
  rintro _ Wr ⟨rfl, hq⟩
  rw [hq]
  clear hq
  have hA3 : Below W1.heap.size W1 (((W1.alloc (.cells #[.bool true, .int .i64 0, .int .i64 0, .int .i64 24] 65)).alloc (.cells #[.slice (some ⟨W1.heap.size, 0, none⟩) 1 1] 29)).alloc (.cells #[.int .i64 0] 3)) := ba (ba (ba (Below.refl _ _) _) _) _
  have T4 := hide ((unhide U4).bel hA3)
  have T5 := hide ((unhide U5).bel hA3)
  have T8 := hide ((unhide U8).bel hA3)
  have T9 := hide ((unhide U9).bel hA3)
  have HB3 := hide (bc (unhide HB1) hA3)
  have T10 := hide ((vb_new2 W1 29 [.slice (some ⟨W1.heap.size, 0, none⟩) 1 1] (.cells #[.bool true, .int .i64 0, .int .i64 0, .int .i64 24] 65)).bel (ba (Below.refl _ _) (.cells #[.int .i64 0] 3)))
  have T11 := hide (vb_new ((W1.alloc (.cells #[.bool true, .int .i64 0, .int .i64 0, .int .i64 24] 65)).alloc (.cells #[.slice (some ⟨W1.heap.size, 0, none⟩) 1 1] 29)) 3 [.int .i64 0] (W1.heap.size + 1 + 1) (by simp))
  have TM := hide ((vb_new1 W1 65 (mvC true 0 0 24) (.cells #[.slice (some ⟨W1.heap.size, 0, none⟩) 1 1] 29)).bel (ba (Below.refl _ _) (.cells #[.int .i64 0] 3)))
  have hW3 : (((W1.alloc (.cells #[.bool true, .int .i64 0, .int .i64 0, .int .i64 24] 65)).alloc (.cells #[.slice (some ⟨W1.heap.size, 0, none⟩) 1 1] 29)).alloc (.cells #[.int .i64 0] 3)).heap.size = W1.heap.size + 3 := by simp
  have hW1s := (unhide U9).lt
  have e0 := (unhide T5).cell (m := 0) rfl
  have e1 := (unhide T5).cell (m := 1) rfl
  have e2 := (unhide T5).cell (m := 2) rfl
  clear hA3 U4 U5 U8 U9 HB1 HRT HBT
  gi_wp2
  refine ⟨trivial, rfl, (callsIn_wide.2 (unhide HLW _ (unhide HB3))).mono ?_⟩
  rintro _ W4 ⟨⟨q2, c2, rfl, hrow⟩, hb4⟩
  have Q4 := hide ((unhide T4).bel hb4)
  have Q8 := hide ((unhide T8).bel hb4)
  have Q9 := hide ((unhide T9).bel hb4)
  have Q10 := hide ((unhide T10).bel hb4)
  have Q11 := hide ((unhide T11).bel hb4)
  have QM := hide ((unhide TM).bel hb4)
  have HB4 := hide (bc (unhide HB3) hb4)
  have HROW := hide hrow
  have hW4 := hb4.size
  rw [hW3] at hW4
  have hq2 := hrow.ge
  rw [hW3] at hq2
  clear hb4 hrow e0 e1 e2 T4 T5 T8 T9 T10 T11 TM HB3 HLW hW3
  gi_wp2
  have hA5 : Below W4.heap.size W4 (W4.alloc (.cells #[.int .i64 (W : Int), .int .i64 (H : Int), .slice (some ⟨q2, 0, none⟩) n c2] 25)) := ba (Below.refl _ _) _
  have H4 := hide ((unhide Q4).bel hA5)
  have H12 := hide (vb_new W4 25 [.int .i64 (W : Int), .int .i64 (H : Int), .slice (some ⟨q2, 0, none⟩) n c2] W4.heap.size rfl)
  have HA5 := hide hA5
  clear hA5
  refine wpIn_mono (zg5 H4 H12 ?hq) (Only.to (fun _ _ h => h))
  intro X hX
  have HX := hide hX
  clear hX
  gi_wp2
  have hXb := bc (unhide HA5) (unhide HX)
  have hZ : Below X.heap.size X (((((X.alloc (.cells #[.int .i64 (W : Int), .int .i64 (H : Int), .slice (some ⟨q2, 0, none⟩) n c2] 25)).alloc (.cells #[.int .i64 (s : Int)] 3)).alloc (.cells #[.int .i64 (W : Int), .int .i64 (H : Int), .slice (some ⟨g, po, none⟩) n c] 25)).alloc (.cells #[.int .i64 (r : Int)] 3)).alloc (.cells #[.func (.func 74) #[] #[.pointer (some ⟨X.heap.size + 1, 0, none⟩), .pointer (some ⟨X.heap.size, 0, none⟩)]] 69)) := ba (ba (ba (ba (ba (Below.refl _ _) _) _) _) _) _
  have hXZ := bc hXb hZ
  have hFX : Fd X q2 0 n c2 (lowP W H r P) := ((unhide HROW).fd).bel hXb
  have HSQ := hide (unhide HZX q2 c2 X (bc (unhide HB4) hXb) hFX)
  have HBZ := hide (bc (unhide HB4) hXZ)
  have Z8 := hide ((unhide Q8).bel hXZ)
  have Z9 := hide ((unhide Q9).bel hXZ)
  have Z10 := hide ((unhide Q10).bel hXZ)
  have Z11 := hide ((unhide Q11).bel hXZ)
  have ZM := hide ((unhide QM).bel hXZ)
  have hXs := hXb.size
  have hq2l := hFX.lt
  have hZs : (((((X.alloc (.cells #[.int .i64 (W : Int), .int .i64 (H : Int), .slice (some ⟨q2, 0, none⟩) n c2] 25)).alloc (.cells #[.int .i64 (s : Int)] 3)).alloc (.cells #[.int .i64 (W : Int), .int .i64 (H : Int), .slice (some ⟨g, po, none⟩) n c] 25)).alloc (.cells #[.int .i64 (r : Int)] 3)).alloc (.cells #[.func (.func 74) #[] #[.pointer (some ⟨X.heap.size + 1, 0, none⟩), .pointer (some ⟨X.heap.size, 0, none⟩)]] 69)).heap.size = X.heap.size + 5 := by simp
  have hW4l : W4.heap.size + 1 ≤ X.heap.size := by have := (unhide HX).size; simp at this; omega
  clear hXb hZ hXZ hFX HX HA5 H4 H12 Q4 Q8 Q9 Q10 Q11 QM HB4 HROW HZX
  generalize ((((X.alloc (.cells #[.int .i64 (W : Int), .int .i64 (H : Int), .slice (some ⟨q2, 0, none⟩) n c2] 25)).alloc (.cells #[.int .i64 (s : Int)] 3)).alloc (.cells #[.int .i64 (W : Int), .int .i64 (H : Int), .slice (some ⟨g, po, none⟩) n c] 25)).alloc (.cells #[.int .i64 (r : Int)] 3)).alloc (.cells #[.func (.func 74) #[] #[.pointer (some ⟨X.heap.size + 1, 0, none⟩), .pointer (some ⟨X.heap.size, 0, none⟩)]] 69) = WL at *
  obtain ⟨B, hB⟩ : ∃ B, WL.heap.size = B := ⟨_, rfl⟩
  obtain ⟨iP, hi1, hp0, hp1, hp2⟩ := info_parts mv65
  have HM0 : Hid (Mvs WL (w.heap.size + 4) (.slice (some ⟨W1.heap.size, 0, none⟩) 1 1) (1 + 4 * 0) (zcs ps 0)) := hide ⟨rfl, .inr ⟨W1.heap.size, 1, _, rfl, by omega, unhide ZM, Nat.le_refl _, by decide, rfl, rfl⟩⟩
  refine range_x (R := fun q => (q = X.heap.size ∨ q = X.heap.size + 1 ∨ q = q2) ∨ q = X.heap.size + 3) (N := ps.length) (gf := 72) (lb := #[.pointer (some ⟨X.heap.size + 2, 0, none⟩), .pointer (some ⟨X.heap.size + 4, 0, none⟩), .pointer (some ⟨X.heap.size + 3, 0, none⟩)]) rfl (enters_of Try.func72 (by kernel_rfl) rfl) (fun b hb => by omega) (unhide HSQ) (Below.refl _ _) (fun _ => rfl)
    (Zl w B (W1.heap.size + 1) (W1.heap.size + 1 + 1) (w.heap.size + 1 + 1) (w.heap.size + 1 + 1 + 1) (fun q => ((q = X.heap.size ∨ q = X.heap.size + 1 ∨ q = q2) ∨ q = X.heap.size + 3) ∨ q = W1.heap.size + 1 ∨ q = W1.heap.size + 1 + 1 ∨ q = w.heap.size + 1 + 1 ∨ q = w.heap.size + 1 + 1 + 1) ps) (fun O k Y => (∀ b, O b → B ≤ b) ∧ vb Y (w.heap.size + 1 + 1) 29 [.slice none 0 0] ∧ vb Y (w.heap.size + 1 + 1 + 1) 3 [.int .i64 18] ∧ 2000 < 1 + 4 * (k + 1) ∧ Below w.heap.size w Y ∧ B ≤ Y.heap.size)
    (fun O O' k A' C h hg hO => h.on (by omega) (by omega) (by omega) (by omega) (by omega) hg hO) ?hIx
    ⟨fun _ h => h.elim, by omega, ⟨_, unhide Z10, unhide HM0, fun q hq => ⟨fun h => h, fun h => by simp only [Value.ownBlock, Option.some.injEq] at hq; omega⟩⟩, unhide Z11, unhide Z8, unhide Z9, by omega, unhide HBZ⟩
    (fun O k a' Y => ∃ (x y : Nat) (z : Int), ps[k]? = some (x, y, z) ∧ ∃ b13, vb Y b13 73 [.int .i64 (x : Int), .int .i64 (y : Int), .int .i64 z] ∧ ¬ O b13 ∧ B ≤ b13 ∧ (∀ b, O b → B ≤ b) ∧ (∀ v, vb Y (W1.heap.size + 1) 29 [v] → v.ownBlock ≠ some b13) ∧ a' = ({ tmps := #[.agg #[.int .i64 (W : Int), .int .i64 (H : Int), .slice (some ⟨g, po, none⟩) n c], .agg #[.int .i64 (W : Int), .int .i64 (H : Int), .slice (some ⟨g', po', none⟩) n c'], .int .i64 (r : Int), .int .i64 (s : Int), .pointer (some ⟨w.heap.size, 0, none⟩), .pointer (some ⟨w.heap.size + 1, 0, none⟩), undef, undef, .pointer (some ⟨w.heap.size + 1 + 1, 0, none⟩), .pointer (some ⟨w.heap.size + 1 + 1 + 1, 0, none⟩), .pointer (some ⟨W1.heap.size + 1, 0, none⟩), .pointer (some ⟨W1.heap.size + 1 + 1, 0, none⟩), .pointer (some ⟨W4.heap.size, 0, none⟩), .pointer (some ⟨b13, 0, none⟩), undef, .agg #[.int .i64 (W : Int), .int .i64 (H : Int), .slice (some ⟨g, po, none⟩) n c], .agg #[.int .i64 (W : Int), .int .i64 (H : Int), .slice (some ⟨g', po', none⟩) n c'], .bool true, .bool false, .bool false, .int .i64 (r : Int), .bool true, .bool false, .bool false, .bool false, .int .i64 (s : Int), .bool true, .bool false, .bool false, .agg #[.bool true, .int .i64 0, .int .i64 0, .int .i64 24], .slice (some ⟨W1.heap.size, 0, none⟩) 1 1, .agg #[.int .i64 (W : Int), .int .i64 (H : Int), .slice (some ⟨g', po', none⟩) n c'], .int .i64 (r : Int), .agg #[.int .i64 (W : Int), .int .i64 (H : Int), .slice (some ⟨q2, 0, none⟩) n c2], .agg #[.int .i64 (W : Int), .int .i64 (H : Int), .slice (some ⟨g, po, none⟩) n c], .int .i64 (r : Int), .agg #[.int .i64 (W : Int), .int .i64 (H : Int), .slice (some ⟨q2, 0, none⟩) n c2], .int .i64 (s : Int), .func (.func 74) #[] #[.pointer (some ⟨X.heap.size + 1, 0, none⟩), .pointer (some ⟨X.heap.size, 0, none⟩)], .func (.func 72) #[] #[.pointer (some ⟨X.heap.size + 2, 0, none⟩), .pointer (some ⟨X.heap.size + 4, 0, none⟩), .pointer (some ⟨X.heap.size + 3, 0, none⟩)], .agg #[.int .i64 (x : Int), .int .i64 (y : Int), .int .i64 z], undef, undef, undef, undef, undef, undef, undef, undef, undef, undef, undef, undef, undef, undef, undef, undef, undef, undef, undef, undef, undef, undef, undef, undef, undef, undef, undef], defers := [] } : Act))
    ?hAx ?assign ?body ?done ?stop
  case hIx =>
    rintro O O' k C D ⟨h1, h2, h3, h4, h5, h6⟩ hg hO
    have hbel : Below B C D := hg.bel h6 h1
    exact ⟨fun b hb => (hO b hb).elim (h1 b) (fun h => by omega), h2.below hbel (by omega), h3.below hbel (by omega), h4, h5.trans (hbel.mono (by omega)), Nat.le_trans h6 hg.size⟩
  case hAx =>
    rintro O k a' C D ⟨x, y, z, hp, b13, h1, h2, h3, hf, hv, h5⟩ hg
    have h1l := h1.lt
    exact ⟨x, y, z, hp, b13, (hg.block _ h1.lt h2).trans h1, h2, h3, hf, fun v hvb => hv v ((hg.block _ (by omega) (fun ho => by have := hf _ ho; omega)).symm.trans hvb), h5⟩
  case assign =>
    intro l' O k Y K hk hO hi hK
    have HK := hide hK
    have HI := hide hi
    clear hK hi
    obtain ⟨⟨x, y, z⟩, hp⟩ : ∃ p, ps[k]? = some p := ⟨_, List.getElem?_eq_getElem hk⟩
    have HP := hide hp
    rw [plc_at hp]
    unfold plV
    clear hp
    gi_wp2
    have hA : Below Y.heap.size Y (Y.alloc (.cells #[.int .i64 (x : Int), .int .i64 (y : Int), .int .i64 z] 73)) := ba (Below.refl _ _) _
    have h := unhide HI
    exact unhide HK _ _ (Kpx.of_bel hA) (h.on (by omega) (by omega) (by omega) (by omega) (by omega) (Grw.of_bel hA) (fun b hb => .inl hb)) ⟨x, y, z, unhide HP, Y.heap.size, vb_new Y 73 _ _ rfl, fun hh => by have := (hO _ hh).2; omega, h.big, h.far, fun v hvb he => by
      obtain ⟨v0, hv0, hr0, _⟩ := h.row
      have e9 := Option.some.inj (hvb.symm.trans (hv0.bel hA))
      simp only [Obj.cells.injEq, Array.mk.injEq, List.cons.injEq, and_true] at e9
      rw [e9] at he
      exact absurd (hr0.lt _ he).2 (Nat.lt_irrefl _), rfl⟩
  case body =>
    rintro l' O k a' Y _ hOl hk hO hi ⟨x, y, z, hp, b13, h13, hn13, hl13, _, hown, rfl⟩
    obtain ⟨v, hv, hr, hnO⟩ := hi.row
    obtain ⟨gg, cp, rfl, hgg1, hgg2⟩ := hr.full (by omega)
    obtain ⟨hzc, hzo⟩ := zcs_succ hp
    have HI := hide hi
    have HNO := hide hnO
    have H13 := hide h13
    have HFEW := hide hi.few
    have h11 := hi.v11
    obtain ⟨oy, hoy⟩ : ∃ oy, zoy ps k = oy := ⟨_, rfl⟩
    rw [hoy] at hzc h11
    obtain ⟨m, hm⟩ : ∃ m, 1 + 4 * k = m := ⟨_, rfl⟩
    have hmk : m ≤ 2000 := by have := hi.few; omega
    rw [hm] at hr hv HNO
    have HHO := hide hO
    have HM := hide hm
    have HZC := hide hzc
    have HZO := hide hzo
    have H11 := hide h11
    have hYB := hi.big
    have hA14 : Below Y.heap.size Y (Y.alloc (.cells #[.bool true, .int .i64 (x : Int), .int .i64 (y : Int), .int .i64 24] 65)) := ba (Below.refl _ _) _
    have hA15 : Below Y.heap.size Y ((Y.alloc (.cells #[.bool true, .int .i64 (x : Int), .int .i64 (y : Int), .int .i64 24] 65)).alloc (.cells #[.bool true, .int .i64 (x : Int), .int .i64 oy, .int .i64 24, .bool true, .int .i64 (x : Int), .int .i64 (y : Int), .int .i64 24, .bool false, .int .i64 (x : Int), .int .i64 (y : Int), .int .i64 z, .bool true, .int .i64 (x : Int), .int .i64 (y : Int), .int .i64 24] 65)) := ba hA14 _
    have HR14 := hide (hr.kept (w' := (Y.alloc (.cells #[.bool true, .int .i64 (x : Int), .int .i64 (y : Int), .int .i64 24] 65))) (fun q hq => by simp only [Value.ownBlock, Option.some.injEq] at hq; subst hq; exact hA14.block _ hgg2))
    have HA15 := hide hA15
    have x0 := h13.cell (m := 0) rfl
    have x1 := h13.cell (m := 1) rfl
    have y0 := (h13.bel hA14).cell (m := 0) rfl
    have y1 := (h13.bel hA14).cell (m := 1) rfl
    have y2 := (h13.bel hA14).cell (m := 2) rfl
    have c10 := (hv.bel hA14).cell (m := 0) rfl
    have c11 := (h11.bel hA14).cell (m := 0) rfl
    have d14 := vb_new Y 65 [.bool true, .int .i64 (x : Int), .int .i64 (y : Int), .int .i64 24] Y.heap.size rfl
    have d0 := d14.cell (m := 0) rfl
    have d1 := d14.cell (m := 1) rfl
    have d2 := d14.cell (m := 2) rfl
    have d3 := d14.cell (m := 3) rfl
    have n2 := (hnO gg rfl).2
    have gn10 : W1.heap.size + 1 ≠ gg := fun e => n2 (.inr (.inl e.symm))
    have gn11 : W1.heap.size + 1 + 1 ≠ gg := fun e => n2 (.inr (.inr (.inl e.symm)))
    have gn8 : w.heap.size + 1 + 1 ≠ gg := fun e => n2 (.inr (.inr (.inr (.inl e.symm))))
    have gn9 : w.heap.size + 1 + 1 + 1 ≠ gg := fun e => n2 (.inr (.inr (.inr (.inr e.symm))))
    have gn13 : b13 ≠ gg := fun e => hown _ hv (by rw [e]; rfl)
    have HBW : Hid (∀ (b t : Nat) (vs : List Value) wz, vb Y b t vs → b ≠ gg → ((Y.alloc (.cells #[.bool true, .int .i64 (x : Int), .int .i64 (y : Int), .int .i64 24] 65)).alloc (.cells #[.bool true, .int .i64 (x : Int), .int .i64 oy, .int .i64 24, .bool true, .int .i64 (x : Int), .int .i64 (y : Int), .int .i64 24, .bool false, .int .i64 (x : Int), .int .i64 (y : Int), .int .i64 z, .bool true, .int .i64 (x : Int), .int .i64 (y : Int), .int .i64 24] 65)).grownBy wz (Value.ownBlock (.slice (some ⟨gg, 0, none⟩) m cp)) → vb wz b t vs) := hide (fun b t vs wz hvb hne hg => (hg.block _ (hvb.bel hA15).lt (fun e => by simp only [Value.ownBlock, Option.some.injEq] at e; exact hne e)).trans (hvb.bel hA15))
    have HV10 := hide hv
    have HV8 := hide hi.v8
    have HV9 := hide hi.v9
    clear hi hv hr hnO h13 h11 hzc hzo hoy hp hm hO hA14 hA15 d14 n2 hown
    have n1110 : W1.heap.size + 1 + 1 ≠ W1.heap.size + 1 := by omega
    have n810 : w.heap.size + 1 + 1 ≠ W1.heap.size + 1 := by omega
    have n910 : w.heap.size + 1 + 1 + 1 ≠ W1.heap.size + 1 := by omega
    have n1310 : b13 ≠ W1.heap.size + 1 := by omega
    by_cases hbm : 2000 < m + 4
    · have t1 : decide ((2000 : Int) < ((m + 4 : Nat) : Int)) = true := decide_eq_true (by omega)
      have t2 : decide ((2000 : Int) < (m : Int) + 4) = true := decide_eq_true (by omega)
      gi_wp2_with (gi_at_builtin; refine listIn_append_new _ rfl _ _ 29 rfl (w.heap.size + 4) 65 iP _ 4 32 Try.underlying29 hi1 hp0 hp1 hp2 rfl (by decide) _ _ _ rfl (World.ownsRow.alloc (unhide HR14) _) _ 4 4 (mv4 (x : Int) oy (y : Int) z) rfl rfl (by first | exact news_cells _ _ rfl | exact news_cells _ _ (by simp) | exact news_drew _ _ (by simp)) (mv4_one _ _ _ _) (by unfold maxLen; omega) (by omega) (by simp; omega) ?_; intro v' wz hown' hgrow hnew; obtain ⟨g', cap', rfl⟩ := ownsRow_succ hown'; have HGR := hide hgrow; have HOW := hide hown'; have HNW := hide hnew; have B10 := hide (unhide HBW _ _ _ wz (unhide HV10) gn10 hgrow); have B11 := hide ((unhide HBW _ _ _ wz (unhide H11) gn11 hgrow).ne (o := 0) (x := (.slice (some ⟨g', 0, none⟩) (m + 4) cap')) n1110); have B8 := hide ((unhide HBW _ _ _ wz (unhide HV8) gn8 hgrow).ne (o := 0) (x := (.slice (some ⟨g', 0, none⟩) (m + 4) cap')) n810); have B9 := hide ((unhide HBW _ _ _ wz (unhide HV9) gn9 hgrow).ne (o := 0) (x := (.slice (some ⟨g', 0, none⟩) (m + 4) cap')) n910); have B13 := hide ((unhide HBW _ _ _ wz (unhide H13) gn13 hgrow).ne (o := 0) (x := (.slice (some ⟨g', 0, none⟩) (m + 4) cap')) n1310); have cz := (unhide B10).cell (m := 0) rfl; have fz := (unhide B10).frozen; have cs10 := ((unhide B10).set 0 (.slice (some ⟨g', 0, none⟩) (m + 4) cap')).cell (m := 0) rfl; have q11 := (unhide B11).cell (m := 0) rfl; have f11 := (unhide B11).frozen; have q8 := (unhide B8).cell (m := 0) rfl; have f8 := (unhide B8).frozen; have q9 := (unhide B9).cell (m := 0) rfl; have f9 := (unhide B9).frozen; have q13 := (unhide B13).cell (m := 1) rfl; clear hown' hgrow hnew)
      have hgr : ((Y.alloc (.cells #[.bool true, .int .i64 (x : Int), .int .i64 (y : Int), .int .i64 24] 65)).alloc (.cells #[.bool true, .int .i64 (x : Int), .int .i64 oy, .int .i64 24, .bool true, .int .i64 (x : Int), .int .i64 (y : Int), .int .i64 24, .bool false, .int .i64 (x : Int), .int .i64 (y : Int), .int .i64 z, .bool true, .int .i64 (x : Int), .int .i64 (y : Int), .int .i64 24] 65)).grownBy wz (some gg) := unhide HGR
      have how : Mvs wz (w.heap.size + 4) (.slice (some ⟨g', 0, none⟩) (m + 4) cap') (m + 4) (zcs ps (k + 1)) := by unfold Mvs; rw [unhide HZC]; exact unhide HOW
      have hwzl : g' < wz.heap.size := (how.lt g' rfl).2
      have hYwz : Below w.heap.size Y wz := ((unhide HA15).mono (by omega)).grown hgr (by simp; omega) (fun j hj => by have := Option.some.inj hj; omega)
      have hkeep : ∀ b, b < Y.heap.size → b ≠ gg → wz.heap[b]? = Y.heap[b]? := fun b hb hne => (hgr.block b (by have := (unhide HA15).size; omega) (fun e => hne (Option.some.inj e))).trans ((unhide HA15).block b hb)
      have hOgg : ∀ b, O b → b ≠ gg := fun b hb e => (unhide HNO gg rfl).1 (by rw [← e]; exact hb)
      have hOB : ∀ b, O b → B ≤ b := (unhide HI).far
      have hYz : Y.heap.size ≤ wz.heap.size := Nat.le_trans (unhide HA15).size hgr.size
      have e89 : w.heap.size + 1 + 1 ≠ w.heap.size + 1 + 1 + 1 := by omega
      refine ⟨fun b hb hbl => ?_, hOB, ((unhide B8).set 0 _).ne e89, ((unhide B9).ne e89.symm).set 0 _, by have := unhide HM; omega, ((((unhide HI).bel.trans hYwz).setCell (p := ⟨W1.heap.size + 1, 0, none⟩) (by simp; omega) _).setCell (p := ⟨w.heap.size + 1 + 1, 0, none⟩) (by simp; omega) _).setCell (p := ⟨w.heap.size + 1 + 1 + 1, 0, none⟩) (by simp; omega) _, by simp; omega⟩
      have h1 := hOB b hb
      have m1 : b ≠ w.heap.size + 1 + 1 + 1 := by omega
      have m2 : b ≠ w.heap.size + 1 + 1 := by omega
      have m3 : b ≠ W1.heap.size + 1 := by omega
      exact (Below.heap_setCell _ _ _ _ m1).trans ((Below.heap_setCell _ _ _ _ m2).trans ((Below.heap_setCell _ _ _ _ m3).trans (hkeep b hbl (hOgg b hb))))
    · have t1 : decide ((2000 : Int) < ((m + 4 : Nat) : Int)) = false := decide_eq_false (by omega)
      have t2 : decide ((2000 : Int) < (m : Int) + 4) = false := decide_eq_false (by omega)
      gi_wp2_with (gi_at_builtin; refine listIn_append_new _ rfl _ _ 29 rfl (w.heap.size + 4) 65 iP _ 4 32 Try.underlying29 hi1 hp0 hp1 hp2 rfl (by decide) _ _ _ rfl (World.ownsRow.alloc (unhide HR14) _) _ 4 4 (mv4 (x : Int) oy (y : Int) z) rfl rfl (by first | exact news_cells _ _ rfl | exact news_cells _ _ (by simp) | exact news_drew _ _ (by simp)) (mv4_one _ _ _ _) (by unfold maxLen; omega) (by omega) (by simp; omega) ?_; intro v' wz hown' hgrow hnew; obtain ⟨g', cap', rfl⟩ := ownsRow_succ hown'; have HGR := hide hgrow; have HOW := hide hown'; have HNW := hide hnew; have B10 := hide (unhide HBW _ _ _ wz (unhide HV10) gn10 hgrow); have B11 := hide ((unhide HBW _ _ _ wz (unhide H11) gn11 hgrow).ne (o := 0) (x := (.slice (some ⟨g', 0, none⟩) (m + 4) cap')) n1110); have B8 := hide ((unhide HBW _ _ _ wz (unhide HV8) gn8 hgrow).ne (o := 0) (x := (.slice (some ⟨g', 0, none⟩) (m + 4) cap')) n810); have B9 := hide ((unhide HBW _ _ _ wz (unhide HV9) gn9 hgrow).ne (o := 0) (x := (.slice (some ⟨g', 0, none⟩) (m + 4) cap')) n910); have B13 := hide ((unhide HBW _ _ _ wz (unhide H13) gn13 hgrow).ne (o := 0) (x := (.slice (some ⟨g', 0, none⟩) (m + 4) cap')) n1310); have cz := (unhide B10).cell (m := 0) rfl; have fz := (unhide B10).frozen; have cs10 := ((unhide B10).set 0 (.slice (some ⟨g', 0, none⟩) (m + 4) cap')).cell (m := 0) rfl; have q11 := (unhide B11).cell (m := 0) rfl; have f11 := (unhide B11).frozen; have q8 := (unhide B8).cell (m := 0) rfl; have f8 := (unhide B8).frozen; have q9 := (unhide B9).cell (m := 0) rfl; have f9 := (unhide B9).frozen; have q13 := (unhide B13).cell (m := 1) rfl; clear hown' hgrow hnew)
      have hgr : ((Y.alloc (.cells #[.bool true, .int .i64 (x : Int), .int .i64 (y : Int), .int .i64 24] 65)).alloc (.cells #[.bool true, .int .i64 (x : Int), .int .i64 oy, .int .i64 24, .bool true, .int .i64 (x : Int), .int .i64 (y : Int), .int .i64 24, .bool false, .int .i64 (x : Int), .int .i64 (y : Int), .int .i64 z, .bool true, .int .i64 (x : Int), .int .i64 (y : Int), .int .i64 24] 65)).grownBy wz (some gg) := unhide HGR
      have how : Mvs wz (w.heap.size + 4) (.slice (some ⟨g', 0, none⟩) (m + 4) cap') (m + 4) (zcs ps (k + 1)) := by unfold Mvs; rw [unhide HZC]; exact unhide HOW
      have hwzl : g' < wz.heap.size := (how.lt g' rfl).2
      have hYwz : Below w.heap.size Y wz := ((unhide HA15).mono (by omega)).grown hgr (by simp; omega) (fun j hj => by have := Option.some.inj hj; omega)
      have hkeep : ∀ b, b < Y.heap.size → b ≠ gg → wz.heap[b]? = Y.heap[b]? := fun b hb hne => (hgr.block b (by have := (unhide HA15).size; omega) (fun e => hne (Option.some.inj e))).trans ((unhide HA15).block b hb)
      have hOgg : ∀ b, O b → b ≠ gg := fun b hb e => (unhide HNO gg rfl).1 (by rw [← e]; exact hb)
      have hOB : ∀ b, O b → B ≤ b := (unhide HI).far
      have hYz : Y.heap.size ≤ wz.heap.size := Nat.le_trans (unhide HA15).size hgr.size
      have hg'c : g' = gg ∨ Y.heap.size ≤ g' := by
        rcases unhide HNW g' rfl with h | h
        · exact .inl (Option.some.inj (show some gg = some g' from h)).symm
        · exact .inr (by have := (unhide HA15).size; omega)
      have m10 : g' ≠ W1.heap.size + 1 := by omega
      have m11 : g' ≠ W1.heap.size + 1 + 1 := by omega
      have hm4 : 1 + 4 * (k + 1) = m + 4 := by have := unhide HM; omega
      refine ⟨⟨hYwz.os, hYwz.tape, hYwz.output, by simp; exact hYz, fun b hb hbl => ?_⟩, ⟨hOB, by simp; omega, ⟨_, ((unhide B10).set 0 _).ne n1110.symm, by rw [hm4]; exact how.kept (fun q hq => by simp only [Value.ownBlock, Option.some.injEq] at hq; subst hq; exact (Below.heap_setCell _ _ _ _ m11).trans (Below.heap_setCell _ _ _ _ m10)), fun q hq => ?_⟩, by rw [unhide HZO]; exact (unhide B11).set 0 _, (unhide B8).ne (by omega), (unhide B9).ne (by omega), by omega, ((((unhide HI).bel.trans hYwz).setCell (p := ⟨W1.heap.size + 1, 0, none⟩) (by simp; omega) _).setCell (p := ⟨W1.heap.size + 1 + 1, 0, none⟩) (by simp; omega) _)⟩⟩
      · have hne : b ≠ gg ∧ b ≠ W1.heap.size + 1 + 1 ∧ b ≠ W1.heap.size + 1 := by
          rcases hb with hb | hb
          · exact ⟨fun e => (unhide HNO gg rfl).2 (.inl (by rw [← e]; exact hb)), by omega, by omega⟩
          · have := hOB b hb
            exact ⟨hOgg b hb, by omega, by omega⟩
        exact (Below.heap_setCell _ _ _ _ hne.2.1).trans ((Below.heap_setCell _ _ _ _ hne.2.2).trans (hkeep b hbl hne.1))
      · simp only [Value.ownBlock, Option.some.injEq] at hq
        subst hq
        rcases hg'c with h | h
        · rw [h]
          exact unhide HNO gg rfl
        · exact ⟨fun ho => by have := (unhide HHO _ ho).2; omega, fun hS => by omega⟩
  case done =>
    intro O D Y hD hi hK hOD
    obtain ⟨v, hv, hr, hnO⟩ := hi.row
    obtain ⟨gg, cp, rfl, hgg1, hgg2⟩ := hr.full (by omega)
    have HI := hide hi
    have HK := hide hK
    have HR := hide hr
    have HNO := hide hnO
    have c10 := hv.cell (m := 0) rfl
    have c8 := hi.v8.cell (m := 0) rfl
    have f8 := hi.v8.frozen
    have c9 := hi.v9.cell (m := 0) rfl
    have f9 := hi.v9.frozen
    have e89 : w.heap.size + 1 + 1 ≠ w.heap.size + 1 + 1 + 1 := by omega
    have V8 := hide ((hi.v8.set 0 (.slice (some ⟨gg, 0, none⟩) (1 + 4 * ps.length) cp)).ne (o := 0) (x := .int .i64 0) e89)
    have V9 := hide ((hi.v9.ne (o := 0) (x := (.slice (some ⟨gg, 0, none⟩) (1 + 4 * ps.length) cp)) e89.symm).set 0 (.int .i64 0))
    clear hi hK hv hr hnO
    gi_wp2
    have hD4 : D ≠ w.heap.size + 1 + 1 := by omega
    have hD5 : D ≠ w.heap.size + 1 + 1 + 1 := by omega
    have hK9 : ((Y.setCell ⟨w.heap.size + 1 + 1, 0, none⟩ (.slice (some ⟨gg, 0, none⟩) (1 + 4 * ps.length) cp)).setCell ⟨w.heap.size + 1 + 1 + 1, 0, none⟩ (.int .i64 0)).heap[D]? = some (.deferred (some [])) := ((Below.heap_setCell _ _ _ _ hD5).trans (Below.heap_setCell _ _ _ _ hD4)).trans (unhide HK)
    refine ⟨by simp, .inl ⟨_, _, rfl, run_takeDeferred hK9, ?_⟩⟩
    have s4 := (vb.cell (show vb (((Y.setCell ⟨w.heap.size + 1 + 1, 0, none⟩ (.slice (some ⟨gg, 0, none⟩) (1 + 4 * ps.length) cp)).setCell ⟨w.heap.size + 1 + 1 + 1, 0, none⟩ (.int .i64 0)).putObj D (.deferred none)) (w.heap.size + 1 + 1) 29 [.slice (some ⟨gg, 0, none⟩) (1 + 4 * ps.length) cp] from (World.putObj_heap_other hD4.symm).trans (unhide V8)) (m := 0) rfl)
    have s5 := (vb.cell (show vb (((Y.setCell ⟨w.heap.size + 1 + 1, 0, none⟩ (.slice (some ⟨gg, 0, none⟩) (1 + 4 * ps.length) cp)).setCell ⟨w.heap.size + 1 + 1 + 1, 0, none⟩ (.int .i64 0)).putObj D (.deferred none)) (w.heap.size + 1 + 1 + 1) 3 [.int .i64 0] from (World.putObj_heap_other hD5.symm).trans (unhide V9)) (m := 0) rfl)
    have hM : Mvs (((Y.setCell ⟨w.heap.size + 1 + 1, 0, none⟩ (.slice (some ⟨gg, 0, none⟩) (1 + 4 * ps.length) cp)).setCell ⟨w.heap.size + 1 + 1 + 1, 0, none⟩ (.int .i64 0)).putObj D (.deferred none)) (w.heap.size + 4) (.slice (some ⟨gg, 0, none⟩) (1 + 4 * ps.length) cp) (1 + 4 * ps.length) (zcs ps ps.length) := (unhide HR).kept (fun q hq => by
      obtain ⟨n1, n2⟩ := unhide HNO q hq
      have m1 : q ≠ w.heap.size + 1 + 1 := fun e => n2 (.inr (.inr (.inr (.inl e))))
      have m2 : q ≠ w.heap.size + 1 + 1 + 1 := fun e => n2 (.inr (.inr (.inr (.inr e))))
      exact (World.putObj_heap_other (fun e => n1 (by rw [e]; exact hOD))).trans ((Below.heap_setCell _ _ _ _ m2).trans (Below.heap_setCell _ _ _ _ m1)))
    refine ⟨.tuple #[.slice (some ⟨gg, 0, none⟩) (1 + 4 * ps.length) cp, .int .i64 0], by simp [results, Try.results9, go_sem, s4, s5], ⟨_, _, rfl, .inl ⟨(unhide HI).few, rfl, hM.mono (by omega)⟩⟩, ?_⟩
    exact (((unhide HI).bel.setCell (p := ⟨w.heap.size + 1 + 1, 0, none⟩) (by simp; omega) _).setCell (p := ⟨w.heap.size + 1 + 1 + 1, 0, none⟩) (by simp; omega) _).trans ⟨rfl, rfl, rfl, by simp, fun b hb => World.putObj_heap_other (by omega)⟩
  case stop =>
    rintro O D k Y hD hk ⟨h1, h2, h3, h4, h5, h6⟩ hK hOD
    have HK := hide hK
    have H2 := hide h2
    have H3 := hide h3
    have H5 := hide h5
    clear hK h2 h3 h5
    gi_wp2
    have hD4 : D ≠ w.heap.size + 1 + 1 := by omega
    have hD5 : D ≠ w.heap.size + 1 + 1 + 1 := by omega
    refine ⟨by simp, .inl ⟨_, _, rfl, run_takeDeferred (unhide HK), ?_⟩⟩
    have s4 := (vb.cell (show vb (Y.putObj D (.deferred none)) (w.heap.size + 1 + 1) 29 [.slice none 0 0] from (World.putObj_heap_other hD4.symm).trans (unhide H2)) (m := 0) rfl)
    have s5 := (vb.cell (show vb (Y.putObj D (.deferred none)) (w.heap.size + 1 + 1 + 1) 3 [.int .i64 18] from (World.putObj_heap_other hD5.symm).trans (unhide H3)) (m := 0) rfl)
    refine ⟨.tuple #[.slice none 0 0, .int .i64 18], by simp [results, Try.results9, go_sem, s4, s5], ⟨_, _, rfl, .inr ⟨by omega, rfl, rfl⟩⟩, ?_⟩
    exact (unhide H5).trans ⟨rfl, rfl, rfl, by simp, fun b hb => World.putObj_heap_other (by omega)⟩
end Go.Proofs.Ytjhldjojkaphkaa

namespace Go.Proofs.Ytjhldjojkaphkaa
open Go.ChangeShapes Go.WideShapes Go.ChangeAt Go.RowKit Go.Shelf
attribute [local go_sem] Oper.semAt_some
set_option linter.unusedVariables false
set_option linter.unusedSimpArgs false

set_option maxRecDepth 100000 in
set_option maxHeartbeats 4000000 in
theorem zgP_st (W H : Int) (u : Option Addr) (p po n c : Nat) (A : List Int) (W' H' : Int) (u' : Option Addr) (p' po' n' c' : Nat) (P : List Int) (r s : Int) (w : World) (hst : stB W H A W' H' P = false)
    (hl : A.length = n) (hn : n ≤ 9223372036854775807) (hu : Its w u p po A) (hl' : P.length = n') (hn' : n' ≤ 9223372036854775807) (hu' : Its w u' p' po' P) :
    Calls Try.prog 9 #[fldV W H u n c, fldV W' H' u' n' c', .int .i64 r, .int .i64 s] w fun e w' => e = .returned (.tuple #[.slice none 0 0, .int .i64 1]) ∧ Below w.heap.size w w' := by
  have hbl : Below w.heap.size w ((((w.alloc (.cells #[.int .i64 W, .int .i64 H, .slice u n c] 25)).alloc (.cells #[.int .i64 W', .int .i64 H', .slice u' n' c'] 25)).alloc (.cells #[.slice none 0 0] 29)).alloc (.cells #[.int .i64 0] 3)) := ba (ba (ba (ba (Below.refl _ _) _) _) _) _
  have HB0 := hide hbl
  have V4 := hide ((vb_new1 w 25 [.int .i64 W, .int .i64 H, .slice u n c] (.cells #[.int .i64 W', .int .i64 H', .slice u' n' c'] 25)).bel (ba (ba (Below.refl _ _) (.cells #[.slice none 0 0] 29)) (.cells #[.int .i64 0] 3)))
  have V5 := hide ((vb_new2 w 25 [.int .i64 W', .int .i64 H', .slice u' n' c'] (.cells #[.int .i64 W, .int .i64 H, .slice u n c] 25)).bel (ba (ba (Below.refl _ _) (.cells #[.slice none 0 0] 29)) (.cells #[.int .i64 0] 3)))
  have V8 := hide ((vb_new ((w.alloc (.cells #[.int .i64 W, .int .i64 H, .slice u n c] 25)).alloc (.cells #[.int .i64 W', .int .i64 H', .slice u' n' c'] 25)) 29 [.slice none 0 0] (w.heap.size + 1 + 1) (by simp)).bel (ba (Below.refl _ _) (.cells #[.int .i64 0] 3)))
  have V9 := hide (vb_new (((w.alloc (.cells #[.int .i64 W, .int .i64 H, .slice u n c] 25)).alloc (.cells #[.int .i64 W', .int .i64 H', .slice u' n' c'] 25)).alloc (.cells #[.slice none 0 0] 29)) 3 [.int .i64 0] (w.heap.size + 1 + 1 + 1) (by simp))
  have HST := hide (stP_any W H u p po n c A W' H' u' p' po' n' c' P _ hl hn (hu.bel hbl) hl' hn' (hu'.bel hbl))
  rw [hst] at HST
  have HRT := hide (fun X => rtP_any r X)
  have HBT := hide (fun X => bt_any s 1 24 X)
  unfold fldV at *
  clear hu hu' hst hbl
  refine (callsIn_wide (n := 0)).1 ?_
  refine callsIn_of_wp_marks Try.func9 rfl trivial ?_ rfl
  simp only [Try.ntmps9, List.size_toArray, List.length_cons, List.length_nil, Nat.reduceAdd, Nat.reduceSub, Array.replicate_succ, Array.replicate_zero, List.push_toArray, List.append_toArray, List.nil_append, List.cons_append]
  have a0 := (unhide V4).cell (m := 0) rfl
  have a1 := (unhide V4).cell (m := 1) rfl
  have a2 := (unhide V4).cell (m := 2) rfl
  have e0 := (unhide V5).cell (m := 0) rfl
  have e1 := (unhide V5).cell (m := 1) rfl
  have e2 := (unhide V5).cell (m := 2) rfl
  gi_wp2
  refine ⟨trivial, rfl, (callsIn_wide.2 (unhide HST)).mono ?_⟩
  rintro _ W1 ⟨rfl, hb1⟩
  have U8 := hide ((unhide V8).bel hb1)
  have U9 := hide ((unhide V9).bel hb1)
  have HB1 := hide (bc (unhide HB0) hb1)
  have c8 := (unhide U8).cell (m := 0) rfl
  have f8 := (unhide U8).frozen
  have c9 := (unhide U9).cell (m := 0) rfl
  have f9 := (unhide U9).frozen
  clear hb1 V4 V5 V8 V9 HB0 HST a0 a1 a2 e0 e1 e2
  gi_wp2
  refine ⟨trivial, ?_⟩
  gi_wp2
  refine ⟨trivial, ?_⟩
  gi_wp2
  have e89 : w.heap.size + 1 + 1 ≠ w.heap.size + 1 + 1 + 1 := by omega
  have s8 := (((unhide U8).set 0 (.slice none 0 0)).ne (o := 0) (x := .int .i64 1) e89).cell (m := 0) rfl
  have s9 := (((unhide U9).ne (o := 0) (x := .slice none 0 0) e89.symm).set 0 (.int .i64 1)).cell (m := 0) rfl
  refine ⟨.tuple #[.slice none 0 0, .int .i64 1], by simp [results, Try.results9, go_sem, s8, s9], rfl, ?_⟩
  exact ((unhide HB1).setCell (p := ⟨w.heap.size + 1 + 1, 0, none⟩) (by simp; omega) _).setCell (p := ⟨w.heap.size + 1 + 1 + 1, 0, none⟩) (by simp; omega) _
set_option maxRecDepth 100000 in
set_option maxHeartbeats 4000000 in
theorem zgP_r (W H : Int) (u : Option Addr) (p po n c : Nat) (A : List Int) (W' H' : Int) (u' : Option Addr) (p' po' n' c' : Nat) (P : List Int) (r s : Int) (w : World) (hst : stB W H A W' H' P = true) (hrr : (decide (0 ≤ r) && decide (r ≤ 3)) = false)
    (hl : A.length = n) (hn : n ≤ 9223372036854775807) (hu : Its w u p po A) (hl' : P.length = n') (hn' : n' ≤ 9223372036854775807) (hu' : Its w u' p' po' P) :
    Calls Try.prog 9 #[fldV W H u n c, fldV W' H' u' n' c', .int .i64 r, .int .i64 s] w fun e w' => e = .returned (.tuple #[.slice none 0 0, .int .i64 1]) ∧ Below w.heap.size w w' := by
  have hbl : Below w.heap.size w ((((w.alloc (.cells #[.int .i64 W, .int .i64 H, .slice u n c] 25)).alloc (.cells #[.int .i64 W', .int .i64 H', .slice u' n' c'] 25)).alloc (.cells #[.slice none 0 0] 29)).alloc (.cells #[.int .i64 0] 3)) := ba (ba (ba (ba (Below.refl _ _) _) _) _) _
  have HB0 := hide hbl
  have V4 := hide ((vb_new1 w 25 [.int .i64 W, .int .i64 H, .slice u n c] (.cells #[.int .i64 W', .int .i64 H', .slice u' n' c'] 25)).bel (ba (ba (Below.refl _ _) (.cells #[.slice none 0 0] 29)) (.cells #[.int .i64 0] 3)))
  have V5 := hide ((vb_new2 w 25 [.int .i64 W', .int .i64 H', .slice u' n' c'] (.cells #[.int .i64 W, .int .i64 H, .slice u n c] 25)).bel (ba (ba (Below.refl _ _) (.cells #[.slice none 0 0] 29)) (.cells #[.int .i64 0] 3)))
  have V8 := hide ((vb_new ((w.alloc (.cells #[.int .i64 W, .int .i64 H, .slice u n c] 25)).alloc (.cells #[.int .i64 W', .int .i64 H', .slice u' n' c'] 25)) 29 [.slice none 0 0] (w.heap.size + 1 + 1) (by simp)).bel (ba (Below.refl _ _) (.cells #[.int .i64 0] 3)))
  have V9 := hide (vb_new (((w.alloc (.cells #[.int .i64 W, .int .i64 H, .slice u n c] 25)).alloc (.cells #[.int .i64 W', .int .i64 H', .slice u' n' c'] 25)).alloc (.cells #[.slice none 0 0] 29)) 3 [.int .i64 0] (w.heap.size + 1 + 1 + 1) (by simp))
  have HST := hide (stP_any W H u p po n c A W' H' u' p' po' n' c' P _ hl hn (hu.bel hbl) hl' hn' (hu'.bel hbl))
  rw [hst] at HST
  have HRT := hide (fun X => rtP_any r X)
  have HBT := hide (fun X => bt_any s 1 24 X)
  rw [hrr] at HRT
  unfold fldV at *
  clear hu hu' hst hbl
  refine (callsIn_wide (n := 0)).1 ?_
  refine callsIn_of_wp_marks Try.func9 rfl trivial ?_ rfl
  simp only [Try.ntmps9, List.size_toArray, List.length_cons, List.length_nil, Nat.reduceAdd, Nat.reduceSub, Array.replicate_succ, Array.replicate_zero, List.push_toArray, List.append_toArray, List.nil_append, List.cons_append]
  have a0 := (unhide V4).cell (m := 0) rfl
  have a1 := (unhide V4).cell (m := 1) rfl
  have a2 := (unhide V4).cell (m := 2) rfl
  have e0 := (unhide V5).cell (m := 0) rfl
  have e1 := (unhide V5).cell (m := 1) rfl
  have e2 := (unhide V5).cell (m := 2) rfl
  gi_wp2
  refine ⟨trivial, rfl, (callsIn_wide.2 (unhide HST)).mono ?_⟩
  rintro _ W1 ⟨rfl, hb1⟩
  have U8 := hide ((unhide V8).bel hb1)
  have U9 := hide ((unhide V9).bel hb1)
  have HB1 := hide (bc (unhide HB0) hb1)
  have c8 := (unhide U8).cell (m := 0) rfl
  have f8 := (unhide U8).frozen
  have c9 := (unhide U9).cell (m := 0) rfl
  have f9 := (unhide U9).frozen
  clear hb1 V4 V5 V8 V9 HB0 HST a0 a1 a2 e0 e1 e2
  gi_wp2
  refine ⟨trivial, rfl, (callsIn_wide.2 (unhide HRT _)).mono ?_⟩
  rintro _ Wq ⟨rfl, hq⟩
  rw [hq]
  clear hq
  gi_wp2
  refine ⟨trivial, ?_⟩
  gi_wp2
  have e89 : w.heap.size + 1 + 1 ≠ w.heap.size + 1 + 1 + 1 := by omega
  have s8 := (((unhide U8).set 0 (.slice none 0 0)).ne (o := 0) (x := .int .i64 1) e89).cell (m := 0) rfl
  have s9 := (((unhide U9).ne (o := 0) (x := .slice none 0 0) e89.symm).set 0 (.int .i64 1)).cell (m := 0) rfl
  refine ⟨.tuple #[.slice none 0 0, .int .i64 1], by simp [results, Try.results9, go_sem, s8, s9], rfl, ?_⟩
  exact ((unhide HB1).setCell (p := ⟨w.heap.size + 1 + 1, 0, none⟩) (by simp; omega) _).setCell (p := ⟨w.heap.size + 1 + 1 + 1, 0, none⟩) (by simp; omega) _
set_option maxRecDepth 100000 in
set_option maxHeartbeats 4000000 in
theorem zgP_s (W H : Int) (u : Option Addr) (p po n c : Nat) (A : List Int) (W' H' : Int) (u' : Option Addr) (p' po' n' c' : Nat) (P : List Int) (r s : Int) (w : World) (hst : stB W H A W' H' P = true) (hrr : (decide (0 ≤ r) && decide (r ≤ 3)) = true) (hss : (decide (1 ≤ s) && decide (s ≤ 24)) = false)
    (hl : A.length = n) (hn : n ≤ 9223372036854775807) (hu : Its w u p po A) (hl' : P.length = n') (hn' : n' ≤ 9223372036854775807) (hu' : Its w u' p' po' P) :
    Calls Try.prog 9 #[fldV W H u n c, fldV W' H' u' n' c', .int .i64 r, .int .i64 s] w fun e w' => e = .returned (.tuple #[.slice none 0 0, .int .i64 1]) ∧ Below w.heap.size w w' := by
  have hbl : Below w.heap.size w ((((w.alloc (.cells #[.int .i64 W, .int .i64 H, .slice u n c] 25)).alloc (.cells #[.int .i64 W', .int .i64 H', .slice u' n' c'] 25)).alloc (.cells #[.slice none 0 0] 29)).alloc (.cells #[.int .i64 0] 3)) := ba (ba (ba (ba (Below.refl _ _) _) _) _) _
  have HB0 := hide hbl
  have V4 := hide ((vb_new1 w 25 [.int .i64 W, .int .i64 H, .slice u n c] (.cells #[.int .i64 W', .int .i64 H', .slice u' n' c'] 25)).bel (ba (ba (Below.refl _ _) (.cells #[.slice none 0 0] 29)) (.cells #[.int .i64 0] 3)))
  have V5 := hide ((vb_new2 w 25 [.int .i64 W', .int .i64 H', .slice u' n' c'] (.cells #[.int .i64 W, .int .i64 H, .slice u n c] 25)).bel (ba (ba (Below.refl _ _) (.cells #[.slice none 0 0] 29)) (.cells #[.int .i64 0] 3)))
  have V8 := hide ((vb_new ((w.alloc (.cells #[.int .i64 W, .int .i64 H, .slice u n c] 25)).alloc (.cells #[.int .i64 W', .int .i64 H', .slice u' n' c'] 25)) 29 [.slice none 0 0] (w.heap.size + 1 + 1) (by simp)).bel (ba (Below.refl _ _) (.cells #[.int .i64 0] 3)))
  have V9 := hide (vb_new (((w.alloc (.cells #[.int .i64 W, .int .i64 H, .slice u n c] 25)).alloc (.cells #[.int .i64 W', .int .i64 H', .slice u' n' c'] 25)).alloc (.cells #[.slice none 0 0] 29)) 3 [.int .i64 0] (w.heap.size + 1 + 1 + 1) (by simp))
  have HST := hide (stP_any W H u p po n c A W' H' u' p' po' n' c' P _ hl hn (hu.bel hbl) hl' hn' (hu'.bel hbl))
  rw [hst] at HST
  have HRT := hide (fun X => rtP_any r X)
  have HBT := hide (fun X => bt_any s 1 24 X)
  rw [hrr] at HRT
  rw [hss] at HBT
  unfold fldV at *
  clear hu hu' hst hbl
  refine (callsIn_wide (n := 0)).1 ?_
  refine callsIn_of_wp_marks Try.func9 rfl trivial ?_ rfl
  simp only [Try.ntmps9, List.size_toArray, List.length_cons, List.length_nil, Nat.reduceAdd, Nat.reduceSub, Array.replicate_succ, Array.replicate_zero, List.push_toArray, List.append_toArray, List.nil_append, List.cons_append]
  have a0 := (unhide V4).cell (m := 0) rfl
  have a1 := (unhide V4).cell (m := 1) rfl
  have a2 := (unhide V4).cell (m := 2) rfl
  have e0 := (unhide V5).cell (m := 0) rfl
  have e1 := (unhide V5).cell (m := 1) rfl
  have e2 := (unhide V5).cell (m := 2) rfl
  gi_wp2
  refine ⟨trivial, rfl, (callsIn_wide.2 (unhide HST)).mono ?_⟩
  rintro _ W1 ⟨rfl, hb1⟩
  have U8 := hide ((unhide V8).bel hb1)
  have U9 := hide ((unhide V9).bel hb1)
  have HB1 := hide (bc (unhide HB0) hb1)
  have c8 := (unhide U8).cell (m := 0) rfl
  have f8 := (unhide U8).frozen
  have c9 := (unhide U9).cell (m := 0) rfl
  have f9 := (unhide U9).frozen
  clear hb1 V4 V5 V8 V9 HB0 HST a0 a1 a2 e0 e1 e2
  gi_wp2
  refine ⟨trivial, rfl, (callsIn_wide.2 (unhide HRT _)).mono ?_⟩
  rintro _ Wq ⟨rfl, hq⟩
  rw [hq]
  clear hq
  gi_wp2
  refine ⟨trivial, rfl, (callsIn_wide.2 (unhide HBT _)).mono ?_⟩
  rintro _ Wr ⟨rfl, hq⟩
  rw [hq]
  clear hq
  gi_wp2
  have e89 : w.heap.size + 1 + 1 ≠ w.heap.size + 1 + 1 + 1 := by omega
  have s8 := (((unhide U8).set 0 (.slice none 0 0)).ne (o := 0) (x := .int .i64 1) e89).cell (m := 0) rfl
  have s9 := (((unhide U9).ne (o := 0) (x := .slice none 0 0) e89.symm).set 0 (.int .i64 1)).cell (m := 0) rfl
  refine ⟨.tuple #[.slice none 0 0, .int .i64 1], by simp [results, Try.results9, go_sem, s8, s9], rfl, ?_⟩
  exact ((unhide HB1).setCell (p := ⟨w.heap.size + 1 + 1, 0, none⟩) (by simp; omega) _).setCell (p := ⟨w.heap.size + 1 + 1 + 1, 0, none⟩) (by simp; omega) _
end Go.Proofs.Ytjhldjojkaphkaa

namespace Go.Proofs.Ytjhldjojkaphkaa
open Go.ChangeShapes Go.WideShapes Go.ChangeAt Go.RowKit Go.Deep
set_option linter.unusedVariables false

/-- the fields are whole numbers, one behind another -/
def intFields (P : Program) (fs : Array Field) : Bool := (List.range fs.size).all fun j =>
  match fs[j]? with
  | some f => decide (f.offset = j) && decide (P.cellsOf f.type = 1) && (match P.underlying f.type with | some (.int .i64) => true | _ => false)
  | none => false
theorem intFields_at {P : Program} {fs : Array Field} (h : intFields P fs = true) {j : Nat} {f : Field} (hf : fs[j]? = some f) : f.offset = j ∧ P.cellsOf f.type = 1 ∧ P.underlying f.type = some (.int .i64) := by
  unfold intFields at h
  rw [List.all_eq_true] at h
  have hj : j < fs.size := (Array.getElem?_eq_some_iff.1 hf).1
  have := h j (by simpa using hj)
  rw [hf] at this
  simp only [Bool.and_eq_true, decide_eq_true_eq] at this
  refine ⟨this.1.1, this.1.2, ?_⟩
  have h2 := this.2
  split at h2
  · assumption
  · cases h2
theorem open_structs {H : Type} {enc : TypeId × Value → H} {P : Program} {w : World} {base : Nat} {spare : Nat → Bool} {held : Bool} {t e k : TypeId} {fs : Array Field} {fuel : Nat} {cs : List Value} {x : DataW H × List MemPlace}
    (ht : P.underlying t = some (.slice e)) (he : P.underlying e = some (.struct fs)) (ce : P.cellsOf e = k) (hk : 0 < k) (hsz : fs.size = k) (hf : intFields P fs = true)
    (h : DataW.trod enc P w base spare held fuel t cs = some x) :
    ∃ (u : Option Addr) (n cap : Nat) (L : List Int), cs = [.slice u n cap] ∧ n ≤ 9223372036854775807 ∧ L.length = n * k ∧ (n ≠ 0 → ∃ p po, u = some ⟨p, po, none⟩ ∧ p < w.heap.size ∧ IntsAt w p po L) := by
  rcases open_slice ht h with ⟨rfl, _⟩ | ⟨a, len, cap, m, n, D, Pl, rfl, hb, hl, hm, hmm, _, hx⟩
  · exact ⟨none, 0, 0, [], rfl, by omega, by simp, fun h => absurd rfl h⟩
  have hlm : len ≤ m := by rw [hmm]; split <;> omega
  have each : ∀ j, j < len * k → ∃ n, w.cell? (a.add j) = some (.int .i64 n) := by
    intro j hj
    have hi : j / k < len := Nat.div_lt_of_lt_mul (by rw [Nat.mul_comm]; exact hj)
    have hr : j % k < k := Nat.mod_lt _ hk
    obtain ⟨cs', h1, h2⟩ := hx (j / k) (by omega)
    rw [ce] at h1
    obtain ⟨_, hlen, hcell⟩ := World.cells?_some h1
    obtain ⟨xs, q, _, _, _, hxl, hff⟩ := DataW.trod_struct he h2
    have hfs : fs[j % k]? = some (fs[j % k]'(by omega)) := Array.getElem?_eq_getElem _
    obtain ⟨o1, o2, o3⟩ := intFields_at hf hfs
    have h3 := hff (j % k) _ hfs
    rw [List.getElem?_eq_getElem (by omega)] at h3
    obtain ⟨y, hy, _, _⟩ := DataW.trod_int o3 h3
    rw [o1, o2] at hy
    have h4 : cs'[j % k]? = some (.int .i64 y) := by
      have h5 : ((cs'.drop (j % k)).take 1)[0]? = some (.int .i64 y) := by rw [hy]; rfl
      simpa [List.getElem?_take, List.getElem?_drop] using h5
    refine ⟨y, ?_⟩
    rw [← h4, ← hcell (j % k) hr]
    rw [add_add, Nat.mul_comm, Nat.div_add_mod]
  refine ⟨some a, len, cap, (List.range (len * k)).map fun j => intOf ((w.cell? (a.add j)).getD undef), rfl, ?_, by simp, fun hn => ?_⟩
  · unfold maxLen at hm; omega
  · obtain ⟨y, hy⟩ := each 0 (Nat.mul_pos (by omega) hk)
    obtain ⟨p, po, sp⟩ := a
    have hsp : sp = none := by
      cases sp with
      | none => rfl
      | some s =>
        simp only [Addr.add, World.cell?] at hy
        split at hy <;> simp at hy
    subst hsp
    refine ⟨p, po, rfl, ?_, ?_⟩
    · exact cell_lt (o := po + 0) hy
    · intro j z hj
      have hjl : j < len * k := by
        have := (List.getElem?_eq_some_iff.1 hj).1
        simpa using this
      obtain ⟨y2, hy2⟩ := each j hjl
      rw [List.getElem?_map, List.getElem?_range hjl] at hj
      simp only [Option.map_some, Option.some.injEq] at hj
      rw [hy2] at hj
      simp only [Option.getD_some, intOf] at hj
      rw [← hj, ← add_none]
      exact hy2
theorem open_irow {H : Type} {enc : TypeId × Value → H} {P : Program} {w : World} {base : Nat} {spare : Nat → Bool} {held : Bool} {t e : TypeId} {fuel : Nat} {cs : List Value} {x : DataW H × List MemPlace}
    (ht : P.underlying t = some (.slice e)) (he : P.underlying e = some (.int .i64)) (ce : P.cellsOf e = 1)
    (h : DataW.trod enc P w base spare held fuel t cs = some x) :
    ∃ (u : Option Addr) (n cap : Nat) (L : List Int), cs = [.slice u n cap] ∧ n ≤ 9223372036854775807 ∧ L.length = n ∧ (n ≠ 0 → ∃ p po, u = some ⟨p, po, none⟩ ∧ p < w.heap.size ∧ IntsAt w p po L) := by
  rcases open_slice ht h with ⟨rfl, _⟩ | ⟨a, len, cap, m, n, D, Pl, rfl, hb, hl, hm, hmm, _, hx⟩
  · exact ⟨none, 0, 0, [], rfl, by omega, by simp, fun h => absurd rfl h⟩
  have hlm : len ≤ m := by rw [hmm]; split <;> omega
  have each : ∀ j, j < len → ∃ n, w.cell? (a.add j) = some (.int .i64 n) := by
    intro j hj
    obtain ⟨cs', h1, h2⟩ := hx j (by omega)
    rw [ce] at h1
    obtain ⟨_, hlen, hcell⟩ := World.cells?_some h1
    obtain ⟨y, hy, _, _⟩ := DataW.trod_int he h2
    refine ⟨y, ?_⟩
    have h4 := hcell 0 (by omega)
    rw [hy] at h4
    rw [Nat.mul_one, add_add, Nat.add_zero] at h4
    exact h4
  refine ⟨some a, len, cap, (List.range len).map fun j => intOf ((w.cell? (a.add j)).getD undef), rfl, ?_, by simp, fun hn => ?_⟩
  · unfold maxLen at hm; omega
  · obtain ⟨y, hy⟩ := each 0 (by omega)
    obtain ⟨p, po, sp⟩ := a
    have hsp : sp = none := by
      cases sp with
      | none => rfl
      | some s =>
        simp only [Addr.add, World.cell?] at hy
        split at hy <;> simp at hy
    subst hsp
    refine ⟨p, po, rfl, ?_, ?_⟩
    · exact cell_lt (o := po + 0) hy
    · intro j z hj
      have hjl : j < len := by
        have := (List.getElem?_eq_some_iff.1 hj).1
        simpa using this
      obtain ⟨y2, hy2⟩ := each j hjl
      rw [List.getElem?_map, List.getElem?_range hjl] at hj
      simp only [Option.map_some, Option.some.injEq] at hj
      rw [hy2] at hj
      simp only [Option.getD_some, intOf] at hj
      rw [← hj, ← add_none]
      exact hy2
end Go.Proofs.Ytjhldjojkaphkaa

namespace Go.Proofs.Ytjhldjojkaphkaa
open Go.ChangeShapes Go.WideShapes Go.ChangeAt Go.RowKit Go.Joins
set_option linter.unusedVariables false
set_option linter.unusedSimpArgs false

theorem its_of {w : World} {u : Option Addr} {n : Nat} {L : List Int} (hl : L.length = n) (h : n ≠ 0 → ∃ p po, u = some ⟨p, po, none⟩ ∧ p < w.heap.size ∧ IntsAt w p po L) : ∃ p po, Its w u p po L := by
  by_cases hn : n = 0
  · exact ⟨0, 0, fun h0 => absurd (List.eq_nil_of_length_eq_zero (by omega)) h0⟩
  · obtain ⟨p, po, h1, h2, h3⟩ := h hn
    exact ⟨p, po, fun _ => ⟨h1, h2, h3⟩⟩
theorem iblk.itz {w : World} {g : Nat} {L : List Int} (h : iblk w g 3 L) : Its w (some ⟨g, 0, none⟩) g 0 L := fun _ => ⟨rfl, h.lt, h.ints⟩
theorem mok_zero {n : Nat} {S : List Int} (hl : S.length = n) (hS : ∀ i, 0 ≤ tp S i ∧ tp S i ≤ 24) : MOk n ⟨S, 0, 0, 0⟩ := by
  have := (sm_nn S (tops_mem hS)).2
  exact ⟨hl, hS, by show (0 : Int) ≤ 0; omega, by show (0 : Int) + sm S ≤ 24 * (n : Int); rw [← hl]; omega, by show (0 : Int) ≤ 0 ∧ (0 : Int) ≤ 24; omega⟩
structure Zf (w : World) (Ws Hs Wp Hp : Int) (us up uw ug : Option Addr) (ns cs np cp m cw cg b12 b13 gx gy : Nat) (ms : List Mve) (LX LY : List Int) (MG : List Mve) (X : World) : Prop where
  bel : Below w.heap.size w X
  v4 : vb X w.heap.size 49 [.int .i64 Ws, .int .i64 Hs, .slice us ns cs]
  v5 : vb X (w.heap.size + 1) 49 [.int .i64 Wp, .int .i64 Hp, .slice up np cp]
  v12 : vb X b12 25 [.int .i64 Ws, .int .i64 Hs, .slice (some ⟨gx, 0, none⟩) ns ns]
  v13 : vb X b13 25 [.int .i64 Wp, .int .i64 Hp, .slice (some ⟨gy, 0, none⟩) np np]
  rw : Mrow X (w.heap.size + 2) (.slice uw m cw) m ms
  rx : Row X (w.heap.size + 2) 3 1 (.slice (some ⟨gx, 0, none⟩) ns ns) ns LX
  ry : Row X (w.heap.size + 2) 3 1 (.slice (some ⟨gy, 0, none⟩) np np) np LY
  rg : Mrow X (b13 + 1) (.slice ug m cg) m MG
  ow : ∀ b, (Value.slice uw m cw).ownBlock = some b → b < gx
  oa : w.heap.size + 2 ≤ gx
  ob : gx < b12
  oc : b12 < gy
  od : gy < b13
theorem Mrow.keep {w w' : World} {B n : Nat} {v : Value} {ms : List Mve} (h : Mrow w B v n ms) (hb : ∀ g, v.ownBlock = some g → w'.heap[g]? = w.heap[g]?) : Mrow w' B v n ms := Mvs.kept h hb
theorem Zf.next {w : World} {Ws Hs Wp Hp : Int} {us up uw ug : Option Addr} {ns cs np cp m cw cg b12 b13 gx gy : Nat} {ms MG : List Mve} {LX LY : List Int} {X X' : World} (h : Zf w Ws Hs Wp Hp us up uw ug ns cs np cp m cw cg b12 b13 gx gy ms LX LY MG X) (hb : Below X.heap.size X X') : Zf w Ws Hs Wp Hp us up uw ug ns cs np cp m cw cg b12 b13 gx gy ms LX LY MG X' :=
  ⟨bc h.bel hb, h.v4.bel hb, h.v5.bel hb, h.v12.bel hb, h.v13.bel hb, h.rw.bel hb, h.rx.below hb, h.ry.below hb, h.rg.bel hb, h.ow, h.oa, h.ob, h.oc, h.od⟩
theorem Zf.markX {w : World} {Ws Hs Wp Hp : Int} {us up uw ug : Option Addr} {ns cs np cp m cw cg b12 b13 gx gy : Nat} {ms MG : List Mve} {LX LY : List Int} {LX' : List Int} {X X' : World} (h : Zf w Ws Hs Wp Hp us up uw ug ns cs np cp m cw cg b12 b13 gx gy ms LX LY MG X) (hm : Mo (some ⟨gx, 0, none⟩) X X') (hr : Row X' (w.heap.size + 2) 3 1 (.slice (some ⟨gx, 0, none⟩) ns ns) ns LX') : Zf w Ws Hs Wp Hp us up uw ug ns cs np cp m cw cg b12 b13 gx gy ms LX' LY MG X' := by
  have oa := h.oa; have ob := h.ob; have oc := h.oc; have od := h.od
  have h2 := h.v5.lt
  have k : ∀ b, b < X.heap.size → b ≠ gx → X'.heap[b]? = X.heap[b]? := fun b h1 h2 => hm.block b h1 (fun a ha => by cases ha; exact fun e => h2 e.symm)
  refine ⟨h.bel.trans (hm.bel (B := w.heap.size) (by omega) (fun a ha => by cases ha; show w.heap.size ≤ gx; omega)), (k _ h.v4.lt (by omega)).trans h.v4, (k _ h.v5.lt (by omega)).trans h.v5, (k _ h.v12.lt (by omega)).trans h.v12, (k _ h.v13.lt (by omega)).trans h.v13, h.rw.keep (fun b hb => k b (Mvs.lt h.rw b hb).2 (by have := h.ow b hb; omega)), hr, h.ry.kept' (fun b hb => k b (World.ownsRow.lt h.ry b hb).2 (by simp only [Value.ownBlock, Option.some.injEq] at hb; omega)), h.rg.keep (fun b hb => k b (Mvs.lt h.rg b hb).2 (by have := (Mvs.lt h.rg b hb).1; omega)), h.ow, h.oa, h.ob, h.oc, h.od⟩
theorem Zf.markY {w : World} {Ws Hs Wp Hp : Int} {us up uw ug : Option Addr} {ns cs np cp m cw cg b12 b13 gx gy : Nat} {ms MG : List Mve} {LX LY : List Int} {LY' : List Int} {X X' : World} (h : Zf w Ws Hs Wp Hp us up uw ug ns cs np cp m cw cg b12 b13 gx gy ms LX LY MG X) (hm : Mo (some ⟨gy, 0, none⟩) X X') (hr : Row X' (w.heap.size + 2) 3 1 (.slice (some ⟨gy, 0, none⟩) np np) np LY') : Zf w Ws Hs Wp Hp us up uw ug ns cs np cp m cw cg b12 b13 gx gy ms LX LY' MG X' := by
  have oa := h.oa; have ob := h.ob; have oc := h.oc; have od := h.od
  have h2 := h.v5.lt
  have k : ∀ b, b < X.heap.size → b ≠ gy → X'.heap[b]? = X.heap[b]? := fun b h1 h2 => hm.block b h1 (fun a ha => by cases ha; exact fun e => h2 e.symm)
  refine ⟨h.bel.trans (hm.bel (B := w.heap.size) (by omega) (fun a ha => by cases ha; show w.heap.size ≤ gy; omega)), (k _ h.v4.lt (by omega)).trans h.v4, (k _ h.v5.lt (by omega)).trans h.v5, (k _ h.v12.lt (by omega)).trans h.v12, (k _ h.v13.lt (by omega)).trans h.v13, h.rw.keep (fun b hb => k b (Mvs.lt h.rw b hb).2 (by have := h.ow b hb; omega)), h.rx.kept' (fun b hb => k b (World.ownsRow.lt h.rx b hb).2 (by simp only [Value.ownBlock, Option.some.injEq] at hb; omega)), hr, h.rg.keep (fun b hb => k b (Mvs.lt h.rg b hb).2 (by have := (Mvs.lt h.rg b hb).1; omega)), h.ow, h.oa, h.ob, h.oc, h.od⟩
theorem Zf.markG {w : World} {Ws Hs Wp Hp : Int} {us up uw ug : Option Addr} {ns cs np cp m cw cg b12 b13 gx gy : Nat} {ms MG : List Mve} {LX LY : List Int} {MG' : List Mve} {X X' : World} (h : Zf w Ws Hs Wp Hp us up uw ug ns cs np cp m cw cg b12 b13 gx gy ms LX LY MG X) (hb : Below (b13 + 1) X X') (hr : Mrow X' (b13 + 1) (.slice ug m cg) m MG') : Zf w Ws Hs Wp Hp us up uw ug ns cs np cp m cw cg b12 b13 gx gy ms LX LY MG' X' := by
  have oa := h.oa; have ob := h.ob; have oc := h.oc; have od := h.od
  refine ⟨h.bel.trans (hb.mono (by omega)), h.v4.below hb (by omega), h.v5.below hb (by omega), h.v12.below hb (by omega), h.v13.below hb (by omega), h.rw.keep (fun b hbb => hb.block b (by have := h.ow b hbb; omega)), h.rx.kept' (fun b hbb => hb.block b (by simp only [Value.ownBlock, Option.some.injEq] at hbb; omega)), h.ry.kept' (fun b hbb => hb.block b (by simp only [Value.ownBlock, Option.some.injEq] at hbb; omega)), hr, h.ow, h.oa, h.ob, h.oc, h.od⟩
set_option maxHeartbeats 8000000 in
set_option maxRecDepth 100000 in
theorem fnExactZigzag_core (Ws Hs Wp Hp R S_ E : Int) (us up : Option Addr) (ps pos ns cs pp pop np cp m : Nat) (S T : List Int) (ms : List Mve) (w : World)
    (hbs : ns ≤ 1048576) (hls : S.length = ns) (hus : Its w us ps pos S) (hbp : np ≤ 1048576) (hlp : T.length = np) (hup : Its w up pp pop T) (hbm : ns + np ≤ 1048576) (hm : m ≤ 2001)
    (HM : Hid (∀ (g1 g2 : Nat) (X : World), iblk X g1 3 S → iblk X g2 3 T → Calls Try.prog 10 #[.agg #[.int .i64 Ws, .int .i64 Hs, .slice (some ⟨g1, 0, none⟩) ns ns], .agg #[.int .i64 Wp, .int .i64 Hp, .slice (some ⟨g2, 0, none⟩) np np], .int .i64 R, .int .i64 S_] X fun e w' => (∃ v, e = .returned (.tuple #[v, .int .i64 E]) ∧ Mrow w' X.heap.size v m ms) ∧ Below X.heap.size X w')) (HP : Hid (∀ (g1 g2 : Nat) (X : World), iblk X g1 3 S → iblk X g2 3 T → Calls Try.prog 9 #[.agg #[.int .i64 Ws, .int .i64 Hs, .slice (some ⟨g1, 0, none⟩) ns ns], .agg #[.int .i64 Wp, .int .i64 Hp, .slice (some ⟨g2, 0, none⟩) np np], .int .i64 R, .int .i64 S_] X fun e w' => (∃ v, e = .returned (.tuple #[v, .int .i64 E]) ∧ Mrow w' X.heap.size v m ms) ∧ Below X.heap.size X w')) :
    Calls Try.prog 5 #[fldV Ws Hs us ns cs, fldV Wp Hp up np cp, .int .i64 R, .int .i64 S_] w fun e w' => e = .returned (.bool true) ∧ Below w.heap.size w w' := by
  have HB0 := hide (ba (ba (Below.refl w.heap.size w) (.cells #[.int .i64 Ws, .int .i64 Hs, .slice us ns cs] 49)) (.cells #[.int .i64 Wp, .int .i64 Hp, .slice up np cp] 49))
  have HV4 := hide (vb_new1 w 49 [.int .i64 Ws, .int .i64 Hs, .slice us ns cs] (.cells #[.int .i64 Wp, .int .i64 Hp, .slice up np cp] 49))
  have HV5 := hide (vb_new2 w 49 [.int .i64 Wp, .int .i64 Hp, .slice up np cp] (.cells #[.int .i64 Ws, .int .i64 Hs, .slice us ns cs] 49))
  have hS0 : w.heap.size + 2 ≤ ((w.alloc (.cells #[.int .i64 Ws, .int .i64 Hs, .slice us ns cs] 49)).alloc (.cells #[.int .i64 Wp, .int .i64 Hp, .slice up np cp] 49)).heap.size := by simp
  have HZ1 := hide (fun X => fd_sz_in Ws Hs us ns cs 1048576 X (by omega) (by omega))
  have HZ2 := hide (fun X => fd_sz_in Wp Hp up np cp (1048576 - (ns : Int)) X (by omega) (by omega))
  have t1 : decide ((1048576 : Int) - (ns : Int) < 0) = false := decide_eq_false (by omega)
  have t2 : decide ((1048576 : Int) - (ns : Int) - (np : Int) < 0) = false := decide_eq_false (by omega)
  have HTS := hide (fun X (hX : Below w.heap.size w X) => fd_to Ws Hs us ps pos ns cs S X hls hbs (hus.bel hX))
  have HTP := hide (fun X (hX : Below w.heap.size w X) => fd_to Wp Hp up pp pop np cp T X hlp hbp (hup.bel hX))
  have HQ := hide (fun (ua ub : Option Addr) (ca cb B B' : Nat) (X : World) (h1 : Mrow X B (.slice ua m ca) m ms) (h2 : Mrow X B' (.slice ub m cb) m ms) => mv_same ua ub B B' m ca cb ms X (by omega) h1 h2)
  have HES := hide (fun (g g' : Nat) (X : World) (h1 : Its X (some ⟨g, 0, none⟩) g 0 S) (h2 : Its X (some ⟨g', 0, none⟩) g' 0 S) => fd_same Ws Hs (some ⟨g, 0, none⟩) (some ⟨g', 0, none⟩) g 0 g' 0 ns ns ns S X hls hbs h1 h2)
  have HEP := hide (fun (g g' : Nat) (X : World) (h1 : Its X (some ⟨g, 0, none⟩) g 0 T) (h2 : Its X (some ⟨g', 0, none⟩) g' 0 T) => fd_same Wp Hp (some ⟨g, 0, none⟩) (some ⟨g', 0, none⟩) g 0 g' 0 np np np T X hlp hbp h1 h2)
  have HKS := hide (fun (g : Nat) (X : World) (hr : Row X (w.heap.size + 2) 3 1 (.slice (some ⟨g, 0, none⟩) ns ns) ns S) => fd_markR Ws Hs (some ⟨g, 0, none⟩) (w.heap.size + 2) ns ns S 1 X hbs (by omega) (by omega) hr)
  have HKP := hide (fun (g : Nat) (X : World) (hr : Row X (w.heap.size + 2) 3 1 (.slice (some ⟨g, 0, none⟩) np np) np T) => fd_markR Wp Hp (some ⟨g, 0, none⟩) (w.heap.size + 2) np np T (1 + (ns : Int)) X hbp (by omega) (by omega) hr)
  have HKG := hide (fun (B : Nat) (v : Value) (X : World) (hr : Mrow X B v m ms) => mv_markR B m v ms 1 X (by omega) (by omega) (by omega) hr)
  have HHG := hide (fun (ug : Option Addr) (cg B : Nat) (X : World) (hr : Mrow X B (.slice ug m cg) m (mksM 1 m)) => mv_held ug B m cg 1 X (by omega) (by omega) (by omega) hr)
  have HLS := hide hls
  have HLP := hide hlp
  have s1 : (E != E) = false := by simp
  have t4 : decide ((1 : Int) + (ns : Int) + (np : Int) < 0) = false := decide_eq_false (by omega)
  have t5 : decide ((1 : Int) + 4 * (m : Int) < 0) = false := decide_eq_false (by omega)
  have t6 : ((1 : Int) + 4 * (m : Int) != 1 + 4 * (m : Int)) = false := by simp
  unfold fldV at *
  clear hus hup hls hlp
  go_enter Try.func5, Try.ntmps5
  go_wp2_with fail
  generalize (w.alloc (.cells #[.int .i64 Ws, .int .i64 Hs, .slice us ns cs] 49)).alloc (.cells #[.int .i64 Wp, .int .i64 Hp, .slice up np cp] 49) = Wa at *
  refine (unhide HZ1 _).mono ?_
  rintro e W0 ⟨rfl, hb0⟩
  have HV4a := hide ((unhide HV4).bel hb0)
  have HV5a := hide ((unhide HV5).bel hb0)
  have HBa := hide (bc (unhide HB0) hb0)
  have HSa : Hid (w.heap.size + 2 ≤ W0.heap.size) := hide (Nat.le_trans hS0 hb0.size)
  clear hb0 HV4 HV5 HB0 hS0
  have k0 := (unhide HV5a).cell (m := 0) rfl
  have k1 := (unhide HV5a).cell (m := 1) rfl
  have k2 := (unhide HV5a).cell (m := 2) rfl
  go_wp2_with fail
  refine (unhide HZ2 _).mono ?_
  rintro e W1 ⟨rfl, hb1⟩
  have HV4b := hide ((unhide HV4a).bel hb1)
  have HV5b := hide ((unhide HV5a).bel hb1)
  have HBb := hide (bc (unhide HBa) hb1)
  have HSb : Hid (w.heap.size + 2 ≤ W1.heap.size) := hide (Nat.le_trans (unhide HSa) hb1.size)
  clear hb1 HV4a HV5a HBa HSa k0 k1 k2
  go_wp2_with fail
  refine Go.Code.wp_mono (Only.to (fun _ _ h => h)) (zq8 HV4b HV5b (hide fun X hX => (unhide HTS) X (bc (unhide HBb) hX)) (hide fun X hX => (unhide HTP) X (bc (unhide HBb) hX)) HM (fun y32 y33 y34 y35 y36 y37 y38 y31 y39 y40 vw W3 hb3 hrw => ?_))
  obtain ⟨uw, cw, rfl, _⟩ := hrw.form
  have HV4c := hide ((unhide HV4b).bel hb3)
  have HV5c := hide ((unhide HV5b).bel hb3)
  have HBc := hide (bc (unhide HBb) hb3)
  have HRW := hide (hrw.mono (unhide HSb))
  have HOW : Hid (∀ b, (Value.slice uw m cw).ownBlock = some b → b < W3.heap.size) := hide (fun b hb => (Mvs.lt hrw b hb).2)
  have HSc : Hid (w.heap.size + 2 ≤ W3.heap.size) := hide (Nat.le_trans (unhide HSb) hb3.size)
  clear hb3 hrw HV4b HV5b HBb HSb HM
  have k0 := (unhide HV4c).cell (m := 0) rfl
  have k1 := (unhide HV4c).cell (m := 1) rfl
  have k2 := (unhide HV4c).cell (m := 2) rfl
  go_wp2_with fail
  refine (unhide HTS _ (unhide HBc)).mono ?_
  rintro e W4 ⟨⟨gx, rfl, hgx, hkx⟩, hb4⟩
  have hA : Below W4.heap.size W4 (W4.alloc (.cells #[.int .i64 Ws, .int .i64 Hs, .slice (some ⟨gx, 0, none⟩) ns ns] 25)) := ba (Below.refl _ _) _
  have hbA := bc hb4 hA
  have HV4d := hide ((unhide HV4c).bel hbA)
  have HV5d := hide ((unhide HV5c).bel hbA)
  have HRWd := hide ((unhide HRW).bel hbA)
  have HBd := hide (bc (unhide HBc) hbA)
  have HKX := hide (hkx.bel hA)
  have HV12 := hide (vb_new W4 25 [.int .i64 Ws, .int .i64 Hs, .slice (some ⟨gx, 0, none⟩) ns ns] W4.heap.size rfl)
  have HO2 : Hid ((∀ b, (Value.slice uw m cw).ownBlock = some b → b < gx) ∧ w.heap.size + 2 ≤ gx ∧ gx < W4.heap.size) := hide ⟨fun b hb => Nat.lt_of_lt_of_le (unhide HOW b hb) hgx, Nat.le_trans (unhide HSc) hgx, hkx.lt⟩
  have HS4 : Hid (W4.heap.size < (W4.alloc (.cells #[.int .i64 Ws, .int .i64 Hs, .slice (some ⟨gx, 0, none⟩) ns ns] 25)).heap.size) := hide (by simp)
  clear hgx hkx hb4 hA hbA k0 k1 k2 HV4c HV5c HRW HBc HOW HSc
  go_upto_region 10 with fail
  generalize W4.alloc (.cells #[.int .i64 Ws, .int .i64 Hs, .slice (some ⟨gx, 0, none⟩) ns ns] 25) = W5 at *
  generalize W4.heap.size = b12 at *
  have k0 := (unhide HV5d).cell (m := 0) rfl
  have k1 := (unhide HV5d).cell (m := 1) rfl
  have k2 := (unhide HV5d).cell (m := 2) rfl
  go_wp2_with fail
  refine (unhide HTP _ (unhide HBd)).mono ?_
  rintro e W6 ⟨⟨gy, rfl, hgy, hky⟩, hb6⟩
  have hA : Below W6.heap.size W6 (W6.alloc (.cells #[.int .i64 Wp, .int .i64 Hp, .slice (some ⟨gy, 0, none⟩) np np] 25)) := ba (Below.refl _ _) _
  have hbA := bc hb6 hA
  have HV4e := hide ((unhide HV4d).bel hbA)
  have HV5e := hide ((unhide HV5d).bel hbA)
  have HRWe := hide ((unhide HRWd).bel hbA)
  have HBe := hide (bc (unhide HBd) hbA)
  have HKXe := hide ((unhide HKX).bel hbA)
  have HV12e := hide ((unhide HV12).bel hbA)
  have HKY := hide (hky.bel hA)
  have HV13 := hide (vb_new W6 25 [.int .i64 Wp, .int .i64 Hp, .slice (some ⟨gy, 0, none⟩) np np] W6.heap.size rfl)
  have HO3 : Hid (b12 < gy ∧ gy < W6.heap.size) := hide ⟨Nat.lt_of_lt_of_le (unhide HS4) hgy, hky.lt⟩
  have HS6 : Hid (W6.heap.size < (W6.alloc (.cells #[.int .i64 Wp, .int .i64 Hp, .slice (some ⟨gy, 0, none⟩) np np] 25)).heap.size) := hide (by simp)
  clear hgy hky hb6 hA hbA k0 k1 k2 HV4d HV5d HRWd HBd HKX HV12 HS4
  go_upto_region 11 with fail
  generalize W6.alloc (.cells #[.int .i64 Wp, .int .i64 Hp, .slice (some ⟨gy, 0, none⟩) np np] 25) = W7 at *
  generalize W6.heap.size = b13 at *
  have k0 := (unhide HV12e).cell (m := 0) rfl
  have k1 := (unhide HV12e).cell (m := 1) rfl
  have k2 := (unhide HV12e).cell (m := 2) rfl
  have j0 := (unhide HV13).cell (m := 0) rfl
  have j1 := (unhide HV13).cell (m := 1) rfl
  have j2 := (unhide HV13).cell (m := 2) rfl
  go_wp2_with fail
  refine (unhide HP _ _ _ (unhide HKXe) (unhide HKY)).mono ?_
  rintro e W9 ⟨⟨vg, rfl, hrg⟩, hb9⟩
  obtain ⟨ug, cg, rfl, _⟩ := hrg.form
  have HFS : Hid (Zf w Ws Hs Wp Hp us up uw ug ns cs np cp m cw cg b12 b13 gx gy ms S T ms W9) := hide (by
    have o2 := unhide HO2
    have o3 := unhide HO3
    have s6 := unhide HS6
    exact ⟨bc (unhide HBe) hb9, (unhide HV4e).bel hb9, (unhide HV5e).bel hb9, (unhide HV12e).bel hb9, (unhide HV13).bel hb9, (unhide HRWe).bel hb9, ((unhide HKXe).bel hb9).row (by omega) (unhide HLS) hbs, ((unhide HKY).bel hb9).row (by omega) (unhide HLP) hbp, hrg.mono (by omega), o2.1, o2.2.1, o2.2.2, o3.1, o3.2⟩)
  clear hrg hb9 k0 k1 k2 j0 j1 j2 HV4e HV5e HRWe HBe HKXe HV12e HKY HV13 HO2 HO3 HS6
  go_wp2_with fail
  refine (unhide HQ _ _ _ _ _ _ _ (unhide HFS).rg (unhide HFS).rw).mono ?_
  rintro e Wc ⟨rfl, hbc⟩
  have HFc := hide ((unhide HFS).next hbc)
  clear hbc HFS
  have k0 := (unhide HFc).v4.cell (m := 0) rfl
  have k1 := (unhide HFc).v4.cell (m := 1) rfl
  have k2 := (unhide HFc).v4.cell (m := 2) rfl
  have j0 := (unhide HFc).v12.cell (m := 0) rfl
  have j1 := (unhide HFc).v12.cell (m := 1) rfl
  have j2 := (unhide HFc).v12.cell (m := 2) rfl
  have HNX : Hid (∀ X, Below Wc.heap.size Wc X → Its X (some ⟨gx, 0, none⟩) gx 0 S) := hide (fun X hX => ((unhide HFc).next hX).rx.it)
  have HIB : Hid (∀ X g, iblk X g 3 S → Its X (some ⟨g, 0, none⟩) g 0 S) := hide (fun X g h => h.itz)
  go_upto_region 14 with fail
  go_cut [66] (fun sx wx => sx = .bool false ∧ Below Wc.heap.size Wc wx)
  case first =>
    go_region_held3 (fun wx => wx.cell? ⟨w.heap.size, 0, none⟩ = some (.int .i64 Ws) ∧ wx.cell? ⟨w.heap.size, 1, none⟩ = some (.int .i64 Hs) ∧ wx.cell? ⟨w.heap.size, 2, none⟩ = some (.slice us ns cs) ∧ wx.cell? ⟨b12, 0, none⟩ = some (.int .i64 Ws) ∧ wx.cell? ⟨b12, 1, none⟩ = some (.int .i64 Hs) ∧ wx.cell? ⟨b12, 2, none⟩ = some (.slice (some ⟨gx, 0, none⟩) ns ns))
      (simp (maxDischargeDepth := 12) [go_sem, le1, lt1, *])
      (first
      | (go_at_call 22; with_reducible refine (unhide HTS _ (by repeat (first | exact (unhide HFc).bel | refine Below.drew ?_))).mono ?_; rintro e w' ⟨⟨g8, rfl, hg8, hk8⟩, hb⟩; have HBx := hide (show Below Wc.heap.size Wc w' from bc (by repeat (first | exact Below.refl _ _ | refine Below.drew ?_)) hb); have HK8 := hide (unhide HIB _ _ hk8); have HK8' := hide (unhide HNX _ (unhide HBx)); have p0 := keep1 hb (b := w.heap.size) (o := 0) (v := .int .i64 Ws) (by simp (maxDischargeDepth := 12) [go_sem, le1, lt1, *]); have p1 := keep1 hb (b := w.heap.size) (o := 1) (v := .int .i64 Hs) (by simp (maxDischargeDepth := 12) [go_sem, le1, lt1, *]); have p2 := keep1 hb (b := w.heap.size) (o := 2) (v := .slice us ns cs) (by simp (maxDischargeDepth := 12) [go_sem, le1, lt1, *]); have p3 := keep1 hb (b := b12) (o := 0) (v := .int .i64 Ws) (by simp (maxDischargeDepth := 12) [go_sem, le1, lt1, *]); have p4 := keep1 hb (b := b12) (o := 1) (v := .int .i64 Hs) (by simp (maxDischargeDepth := 12) [go_sem, le1, lt1, *]); have p5 := keep1 hb (b := b12) (o := 2) (v := .slice (some ⟨gx, 0, none⟩) ns ns) (by simp (maxDischargeDepth := 12) [go_sem, le1, lt1, *]); clear hb hg8 hk8)
      | (go_at_call 24; with_reducible refine (unhide HES _ _ _ (unhide HK8') (unhide HK8)).mono ?_; rintro e w' ⟨rfl, hb⟩; have HBy := hide (show Below Wc.heap.size Wc w' from bc (by repeat (first | exact unhide HBx | refine Below.drew ?_)) hb); have q0 := keep1 hb (b := w.heap.size) (o := 0) (v := .int .i64 Ws) (by simp (maxDischargeDepth := 12) [go_sem, le1, lt1, *]); have q1 := keep1 hb (b := w.heap.size) (o := 1) (v := .int .i64 Hs) (by simp (maxDischargeDepth := 12) [go_sem, le1, lt1, *]); have q2 := keep1 hb (b := w.heap.size) (o := 2) (v := .slice us ns cs) (by simp (maxDischargeDepth := 12) [go_sem, le1, lt1, *]); have q3 := keep1 hb (b := b12) (o := 0) (v := .int .i64 Ws) (by simp (maxDischargeDepth := 12) [go_sem, le1, lt1, *]); have q4 := keep1 hb (b := b12) (o := 1) (v := .int .i64 Hs) (by simp (maxDischargeDepth := 12) [go_sem, le1, lt1, *]); have q5 := keep1 hb (b := b12) (o := 2) (v := .slice (some ⟨gx, 0, none⟩) ns ns) (by simp (maxDischargeDepth := 12) [go_sem, le1, lt1, *]); clear hb))
    all_goals
      go_wp2_with fail
      go_meet
      case rel => exact ⟨rfl, (by repeat (first | exact unhide HBy | refine Below.drew ?_))⟩
  case rest =>
  obtain ⟨rfl, hw⟩ := hcut
  have HFd := hide ((unhide HFc).next hw)
  clear hw k0 k1 k2 j0 j1 j2 HFc HNX HIB
  generalize wc = Wd at *
  go_wp2_with fail
  have k0 := (unhide HFd).v5.cell (m := 0) rfl
  have k1 := (unhide HFd).v5.cell (m := 1) rfl
  have k2 := (unhide HFd).v5.cell (m := 2) rfl
  have j0 := (unhide HFd).v13.cell (m := 0) rfl
  have j1 := (unhide HFd).v13.cell (m := 1) rfl
  have j2 := (unhide HFd).v13.cell (m := 2) rfl
  have HNX : Hid (∀ X, Below Wd.heap.size Wd X → Its X (some ⟨gy, 0, none⟩) gy 0 T) := hide (fun X hX => ((unhide HFd).next hX).ry.it)
  have HIB : Hid (∀ X g, iblk X g 3 T → Its X (some ⟨g, 0, none⟩) g 0 T) := hide (fun X g h => h.itz)
  go_upto_region 16 with fail
  go_cut [71] (fun sx wx => sx = .bool false ∧ Below Wd.heap.size Wd wx)
  case first =>
    go_region_held3 (fun wx => wx.cell? ⟨(w.heap.size + 1), 0, none⟩ = some (.int .i64 Wp) ∧ wx.cell? ⟨(w.heap.size + 1), 1, none⟩ = some (.int .i64 Hp) ∧ wx.cell? ⟨(w.heap.size + 1), 2, none⟩ = some (.slice up np cp) ∧ wx.cell? ⟨b13, 0, none⟩ = some (.int .i64 Wp) ∧ wx.cell? ⟨b13, 1, none⟩ = some (.int .i64 Hp) ∧ wx.cell? ⟨b13, 2, none⟩ = some (.slice (some ⟨gy, 0, none⟩) np np))
      (simp (maxDischargeDepth := 12) [go_sem, le1, lt1, *])
      (first
      | (go_at_call 22; with_reducible refine (unhide HTP _ (by repeat (first | exact (unhide HFd).bel | refine Below.drew ?_))).mono ?_; rintro e w' ⟨⟨g8, rfl, hg8, hk8⟩, hb⟩; have HBx := hide (show Below Wd.heap.size Wd w' from bc (by repeat (first | exact Below.refl _ _ | refine Below.drew ?_)) hb); have HK8 := hide (unhide HIB _ _ hk8); have HK8' := hide (unhide HNX _ (unhide HBx)); have p0 := keep1 hb (b := (w.heap.size + 1)) (o := 0) (v := .int .i64 Wp) (by simp (maxDischargeDepth := 12) [go_sem, le1, lt1, *]); have p1 := keep1 hb (b := (w.heap.size + 1)) (o := 1) (v := .int .i64 Hp) (by simp (maxDischargeDepth := 12) [go_sem, le1, lt1, *]); have p2 := keep1 hb (b := (w.heap.size + 1)) (o := 2) (v := .slice up np cp) (by simp (maxDischargeDepth := 12) [go_sem, le1, lt1, *]); have p3 := keep1 hb (b := b13) (o := 0) (v := .int .i64 Wp) (by simp (maxDischargeDepth := 12) [go_sem, le1, lt1, *]); have p4 := keep1 hb (b := b13) (o := 1) (v := .int .i64 Hp) (by simp (maxDischargeDepth := 12) [go_sem, le1, lt1, *]); have p5 := keep1 hb (b := b13) (o := 2) (v := .slice (some ⟨gy, 0, none⟩) np np) (by simp (maxDischargeDepth := 12) [go_sem, le1, lt1, *]); clear hb hg8 hk8)
      | (go_at_call 24; with_reducible refine (unhide HEP _ _ _ (unhide HK8') (unhide HK8)).mono ?_; rintro e w' ⟨rfl, hb⟩; have HBy := hide (show Below Wd.heap.size Wd w' from bc (by repeat (first | exact unhide HBx | refine Below.drew ?_)) hb); have q0 := keep1 hb (b := (w.heap.size + 1)) (o := 0) (v := .int .i64 Wp) (by simp (maxDischargeDepth := 12) [go_sem, le1, lt1, *]); have q1 := keep1 hb (b := (w.heap.size + 1)) (o := 1) (v := .int .i64 Hp) (by simp (maxDischargeDepth := 12) [go_sem, le1, lt1, *]); have q2 := keep1 hb (b := (w.heap.size + 1)) (o := 2) (v := .slice up np cp) (by simp (maxDischargeDepth := 12) [go_sem, le1, lt1, *]); have q3 := keep1 hb (b := b13) (o := 0) (v := .int .i64 Wp) (by simp (maxDischargeDepth := 12) [go_sem, le1, lt1, *]); have q4 := keep1 hb (b := b13) (o := 1) (v := .int .i64 Hp) (by simp (maxDischargeDepth := 12) [go_sem, le1, lt1, *]); have q5 := keep1 hb (b := b13) (o := 2) (v := .slice (some ⟨gy, 0, none⟩) np np) (by simp (maxDischargeDepth := 12) [go_sem, le1, lt1, *]); clear hb))
    all_goals
      go_wp2_with fail
      go_meet
      case rel => exact ⟨rfl, (by repeat (first | exact unhide HBy | refine Below.drew ?_))⟩
  case rest =>
  obtain ⟨rfl, hw⟩ := hcut
  have HFe := hide ((unhide HFd).next hw)
  clear hw k0 k1 k2 j0 j1 j2 HFd HNX HIB
  generalize wc = We at *
  have k0 := (unhide HFe).v12.cell (m := 0) rfl
  have k1 := (unhide HFe).v12.cell (m := 1) rfl
  have k2 := (unhide HFe).v12.cell (m := 2) rfl
  go_wp2_with fail
  refine (unhide HKS _ _ (unhide HFe).rx).mono ?_
  rintro e Wh ⟨rfl, hro, hmo⟩
  have HFh := hide ((unhide HFe).markX hmo hro)
  clear hro hmo k0 k1 k2 HFe
  have k0 := (unhide HFh).v13.cell (m := 0) rfl
  have k1 := (unhide HFh).v13.cell (m := 1) rfl
  have k2 := (unhide HFh).v13.cell (m := 2) rfl
  go_wp2_with fail
  refine (unhide HKP _ _ (unhide HFh).ry).mono ?_
  rintro e Wi ⟨rfl, hro, hmo⟩
  have HFi := hide ((unhide HFh).markY hmo hro)
  clear hro hmo k0 k1 k2 HFh
  go_wp2_with fail
  refine (unhide HQ _ _ _ _ _ _ _ (unhide HFi).rg (unhide HFi).rw).mono ?_
  rintro e Wk ⟨rfl, hbk⟩
  have HFk := hide ((unhide HFi).next hbk)
  clear hbk HFi
  go_wp2_with fail
  refine (unhide HKG _ _ _ (unhide HFk).rg).mono ?_
  rintro e Wl ⟨rfl, hro, hmo⟩
  have HFl := hide ((unhide HFk).markG hmo hro)
  clear hro hmo HFk
  go_wp2_with fail
  refine (unhide HHG _ _ _ _ (unhide HFl).rg).mono ?_
  rintro e Wm ⟨rfl, hbm2⟩
  have HFm := hide ((unhide HFl).next hbm2.bel)
  clear hbm2 HFl
  go_wp2_with fail
  refine Go.Code.wp_mono (Only.to (fun _ _ h => h)) (zq31 (hide (unhide HFm).v4) (hide (unhide HFm).v5) (hide fun X hX => (unhide HTS) X (bc (unhide HFm).bel hX)) (hide fun X hX => (unhide HTP) X (bc (unhide HFm).bel hX)) HP (fun y103 y104 y105 y106 y107 y108 y109 y102 y110 y111 vh Wn hbn hrh => ?_))
  obtain ⟨uh, ch, rfl, _⟩ := hrh.form
  have HFn := hide ((unhide HFm).next hbn)
  have HRH := hide hrh
  clear hbn hrh HFm
  go_wp2_with fail
  refine (unhide HQ _ _ _ _ _ _ _ (unhide HRH) (unhide HFn).rw).mono ?_
  rintro e Wo ⟨rfl, hbo⟩
  have HFo := hide ((unhide HFn).next hbo)
  clear hbo HFn
  go_wp2_with fail
  refine (unhide HHG _ _ _ _ (unhide HFo).rg).mono ?_
  rintro e Wp9 ⟨rfl, hbp9⟩
  have HFp := hide ((unhide HFo).next hbp9.bel)
  clear hbp9 HFo
  go_wp2_with fail
  go_ret
  exact ⟨rfl, (unhide HFp).bel⟩
theorem nil_mrow (w : World) (B : Nat) : Mrow w B (.slice none 0 0) 0 [] := ⟨rfl, .inl ⟨rfl, rfl⟩⟩
theorem fop_nat {Ws Hs Wp Hp : Int} {S T : List Int} (h : stB Ws Hs S Wp Hp T = true) : FOk Ws Hs S ∧ FOk Wp Hp T ∧ Ws = Wp ∧ Hs = Hp := by
  unfold stB pairB at h
  rw [Bool.and_eq_true, decide_eq_true_eq] at h
  exact ⟨h.1.a, h.1.b, h.1.w, h.1.h⟩
theorem lowL_rng {W H r : Nat} {P : List Int} (hP : ∀ i, 0 ≤ tp P i ∧ tp P i ≤ 24) (i : Nat) : 0 ≤ tp (lowL W H r P) i ∧ tp (lowL W H r P) i ≤ 24 := by
  by_cases h : i < W * H
  · unfold lowL
    rw [byL_tp _ _ h]
    exact ⟨hi_nn _ _, hi_le.2 ⟨by omega, fun j _ => (hP j).2⟩⟩
  · have : tp (lowL W H r P) i = 0 := by
      unfold tp
      rw [List.getD_eq_getElem?_getD, List.getElem?_eq_none (by unfold lowL; rw [byL_len]; omega)]
      rfl
    rw [this]
    omega
theorem fnExactZigzag_small (Ws Hs : Int) (us : Option Addr) (ns cs : Nat) (S : List Int) (Wp Hp : Int) (up : Option Addr) (np cp : Nat) (T : List Int) (R S_ : Int) (ps pos pp pop : Nat) (w : World)
    (hls : S.length = ns) (hus : Its w us ps pos S) (hlp : T.length = np) (hup : Its w up pp pop T) (hbm : ns + np ≤ 1048576) :
    Calls Try.prog 5 #[fldV Ws Hs us ns cs, fldV Wp Hp up np cp, .int .i64 R, .int .i64 S_] w fun e w' => e = .returned (.bool true) ∧ Below w.heap.size w w' := by
  have bad : ((stB Ws Hs S Wp Hp T && (decide (0 ≤ R) && decide (R ≤ 3))) = false ∨ ((stB Ws Hs S Wp Hp T && (decide (0 ≤ R) && decide (R ≤ 3))) = true ∧ (S_ < 1 ∨ (¬ S_ < 1 ∧ 24 < S_)))) →
      Calls Try.prog 5 #[fldV Ws Hs us ns cs, fldV Wp Hp up np cp, .int .i64 R, .int .i64 S_] w fun e w' => e = .returned (.bool true) ∧ Below w.heap.size w w' := by
    intro hbad
    refine fnExactZigzag_core Ws Hs Wp Hp R S_ 1 us up ps pos ns cs pp pop np cp 0 S T [] w (by omega) hls hus (by omega) hlp hup hbm (by omega) (hide fun g1 g2 X x1 x2 => ?_) (hide fun g1 g2 X x1 x2 => ?_)
    · exact zgM_bad Ws Hs (some ⟨g1, 0, none⟩) g1 0 ns ns S Wp Hp (some ⟨g2, 0, none⟩) g2 0 np np T R S_ X hbad hls (by omega) x1.itz hlp (by omega) x2.itz
    · have h1 : Calls Try.prog 9 #[fldV Ws Hs (some ⟨g1, 0, none⟩) ns ns, fldV Wp Hp (some ⟨g2, 0, none⟩) np np, .int .i64 R, .int .i64 S_] X fun e w' => e = .returned (.tuple #[.slice none 0 0, .int .i64 1]) ∧ Below X.heap.size X w' := by
        cases hst : stB Ws Hs S Wp Hp T with
        | false => exact zgP_st Ws Hs (some ⟨g1, 0, none⟩) g1 0 ns ns S Wp Hp (some ⟨g2, 0, none⟩) g2 0 np np T R S_ X hst hls (by omega) x1.itz hlp (by omega) x2.itz
        | true =>
          cases hrr : (decide (0 ≤ R) && decide (R ≤ 3)) with
          | false => exact zgP_r Ws Hs (some ⟨g1, 0, none⟩) g1 0 ns ns S Wp Hp (some ⟨g2, 0, none⟩) g2 0 np np T R S_ X hst hrr hls (by omega) x1.itz hlp (by omega) x2.itz
          | true =>
            refine zgP_s Ws Hs (some ⟨g1, 0, none⟩) g1 0 ns ns S Wp Hp (some ⟨g2, 0, none⟩) g2 0 np np T R S_ X hst hrr ?_ hls (by omega) x1.itz hlp (by omega) x2.itz
            rcases hbad with hb | ⟨_, hb⟩
            · rw [hst, hrr] at hb; cases hb
            · rw [Bool.and_eq_false_iff, decide_eq_false_iff_not, decide_eq_false_iff_not]
              omega
      refine h1.mono ?_
      rintro e w' ⟨rfl, hb⟩
      exact ⟨⟨_, rfl, nil_mrow _ _⟩, hb⟩
  cases hst : (stB Ws Hs S Wp Hp T && (decide (0 ≤ R) && decide (R ≤ 3))) with
  | false => exact bad (.inl hst)
  | true =>
    by_cases h1 : S_ < 1
    · exact bad (.inr ⟨hst, .inl h1⟩)
    by_cases h2 : 24 < S_
    · exact bad (.inr ⟨hst, .inr ⟨h1, h2⟩⟩)
    rw [Bool.and_eq_true, Bool.and_eq_true, decide_eq_true_eq, decide_eq_true_eq] at hst
    obtain ⟨hst, hR0, hR1⟩ := hst
    obtain ⟨o1, o2, rfl, rfl⟩ := fop_nat hst
    obtain ⟨a, b, rfl, rfl, ha1, ha2, hb1, hb2, hlen⟩ := o1.nat
    obtain ⟨r, rfl⟩ : ∃ r : Nat, R = (r : Int) := ⟨R.toNat, by omega⟩
    obtain ⟨s, rfl⟩ : ∃ s : Nat, S_ = (s : Int) := ⟨S_.toNat, by omega⟩
    have hns : ns = a * b := by rw [← hls]; exact hlen
    have hnp : np = ns := by
      obtain ⟨a', b', ea, eb, _, _, _, _, hl'⟩ := o2.nat
      have e1 : a' = a := by omega
      have e2 : b' = b := by omega
      rw [← hlp, hl', e1, e2, hns]
    subst hnp
    have hsm : np ≤ 576 := by rw [hns]; exact Nat.mul_le_mul ha2 hb2
    have hSt := o1.tops_tp
    have hTt := o2.tops_tp
    have hLt := lowL_rng (W := a) (H := b) (r := r) hTt
    obtain ⟨PS, hPS⟩ : ∃ PS, zzL a b r s S (lowL a b r T) = PS := ⟨_, rfl⟩
    have hmod : MOk np ⟨S, 0, 0, 0⟩ := mok_zero hls hSt
    by_cases hfew : 1 + 4 * PS.length ≤ 2000
    · refine fnExactZigzag_core (a : Int) (b : Int) (a : Int) (b : Int) (r : Int) (s : Int) 0 us up ps pos np cs pp pop np cp (1 + 4 * PS.length) S T (zmv PS PS.length) w (by omega) hls hus (by omega) hlp hup hbm (by omega) (hide fun g1 g2 X x1 x2 => ?_) (hide fun g1 g2 X x1 x2 => ?_)
      · refine (zgM_good a b np np g1 0 np g2 0 r s S T X ha1 ha2 hb1 hb2 hns (by omega) (by omega) (by omega) hst ⟨x1.lt, x1.ints, hls, Nat.le_refl _, by omega⟩ ⟨x2.lt, x2.ints, hlp, Nat.le_refl _, by omega⟩ hSt hLt).mono ?_
        rintro e w' ⟨⟨v, E, rfl, hz⟩, hb'⟩
        rw [hPS] at hz
        rcases hz with ⟨_, rfl, hz⟩ | ⟨hz, _⟩
        · exact ⟨⟨v, rfl, by unfold Mrow; rw [← zcs_flat]; exact hz⟩, hb'⟩
        · omega
      · refine (zgP_good a b np np g1 0 np g2 0 r s S T X ha1 ha2 hb1 hb2 hns (by omega) (by omega) (by omega) hst ⟨x1.lt, x1.ints, hls, Nat.le_refl _, by omega⟩ ⟨x2.lt, x2.ints, hlp, Nat.le_refl _, by omega⟩ hmod hLt).mono ?_
        rintro e w' ⟨⟨v, E, rfl, hz⟩, hb'⟩
        rw [show zzL a b r s S (lowP a b r T) = PS from hPS] at hz
        rcases hz with ⟨_, rfl, hz⟩ | ⟨hz, _⟩
        · exact ⟨⟨v, rfl, by unfold Mrow; rw [← zcs_flat]; exact hz⟩, hb'⟩
        · omega
    · refine fnExactZigzag_core (a : Int) (b : Int) (a : Int) (b : Int) (r : Int) (s : Int) 18 us up ps pos np cs pp pop np cp 0 S T [] w (by omega) hls hus (by omega) hlp hup hbm (by omega) (hide fun g1 g2 X x1 x2 => ?_) (hide fun g1 g2 X x1 x2 => ?_)
      · refine (zgM_good a b np np g1 0 np g2 0 r s S T X ha1 ha2 hb1 hb2 hns (by omega) (by omega) (by omega) hst ⟨x1.lt, x1.ints, hls, Nat.le_refl _, by omega⟩ ⟨x2.lt, x2.ints, hlp, Nat.le_refl _, by omega⟩ hSt hLt).mono ?_
        rintro e w' ⟨⟨v, E, rfl, hz⟩, hb'⟩
        rw [hPS] at hz
        rcases hz with ⟨hz, _⟩ | ⟨_, rfl, hz⟩
        · omega
        · exact ⟨⟨v, rfl, hz⟩, hb'⟩
      · refine (zgP_good a b np np g1 0 np g2 0 r s S T X ha1 ha2 hb1 hb2 hns (by omega) (by omega) (by omega) hst ⟨x1.lt, x1.ints, hls, Nat.le_refl _, by omega⟩ ⟨x2.lt, x2.ints, hlp, Nat.le_refl _, by omega⟩ hmod hLt).mono ?_
        rintro e w' ⟨⟨v, E, rfl, hz⟩, hb'⟩
        rw [show zzL a b r s S (lowP a b r T) = PS from hPS] at hz
        rcases hz with ⟨hz, _⟩ | ⟨_, rfl, rfl⟩
        · omega
        · exact ⟨⟨_, rfl, nil_mrow _ _⟩, hb'⟩
set_option maxHeartbeats 2000000 in
set_option maxRecDepth 100000 in
theorem fnExactZigzag_big (Ws Hs : Int) (us : Option Addr) (ns cs : Nat) (Wp Hp : Int) (up : Option Addr) (np cp : Nat) (R S_ : Int) (w : World)
    (hns : ns ≤ 9223372036854775807) (hnp : np ≤ 9223372036854775807) (hbm : ¬ ns + np ≤ 1048576) :
    Calls Try.prog 5 #[fldV Ws Hs us ns cs, fldV Wp Hp up np cp, .int .i64 R, .int .i64 S_] w fun e w' => e = .returned (.bool true) ∧ Below w.heap.size w w' := by
  have HB0 := hide (ba (ba (Below.refl w.heap.size w) (.cells #[.int .i64 Ws, .int .i64 Hs, .slice us ns cs] 49)) (.cells #[.int .i64 Wp, .int .i64 Hp, .slice up np cp] 49))
  have HV5 := hide (vb_new2 w 49 [.int .i64 Wp, .int .i64 Hp, .slice up np cp] (.cells #[.int .i64 Ws, .int .i64 Hs, .slice us ns cs] 49))
  by_cases h1 : ns ≤ 1048576
  · have HZ1 := hide (fun X => fd_sz_in Ws Hs us ns cs 1048576 X (by omega) (by omega))
    have t1 : decide ((1048576 : Int) - (ns : Int) < 0) = false := decide_eq_false (by omega)
    have HZ2 := hide (fun X => fd_sz_out Wp Hp up np cp (1048576 - (ns : Int)) X (by omega) (by omega) (by omega) hnp)
    unfold fldV at *
    go_enter Try.func5, Try.ntmps5
    go_wp2_with fail
    generalize (w.alloc (.cells #[.int .i64 Ws, .int .i64 Hs, .slice us ns cs] 49)).alloc (.cells #[.int .i64 Wp, .int .i64 Hp, .slice up np cp] 49) = Wa at *
    refine (unhide HZ1 _).mono ?_
    rintro e W0 ⟨rfl, hb0⟩
    have k0 := ((unhide HV5).bel hb0).cell (m := 0) rfl
    have k1 := ((unhide HV5).bel hb0).cell (m := 1) rfl
    have k2 := ((unhide HV5).bel hb0).cell (m := 2) rfl
    have HBa := hide (bc (unhide HB0) hb0)
    clear hb0
    go_wp2_with fail
    refine (unhide HZ2 _).mono ?_
    rintro e W1 ⟨rfl, hb1⟩
    have HBb := hide (bc (unhide HBa) hb1)
    clear hb1 k0 k1 k2
    go_wp2_with fail
    go_ret
    exact ⟨rfl, unhide HBb⟩
  · have HZ1 := hide (fun X => fd_sz_out Ws Hs us ns cs 1048576 X (by omega) (by omega) (by omega) hns)
    unfold fldV at *
    go_enter Try.func5, Try.ntmps5
    go_wp2_with fail
    refine (unhide HZ1 _).mono ?_
    rintro e W0 ⟨rfl, hb0⟩
    have HBa := hide (bc (unhide HB0) hb0)
    clear hb0
    go_wp2_with fail
    go_ret
    exact ⟨rfl, unhide HBa⟩
theorem fnExactZigzag_walk (Ws Hs : Int) (us : Option Addr) (ns cs : Nat) (S : List Int) (Wp Hp : Int) (up : Option Addr) (np cp : Nat) (T : List Int) (R S_ : Int) (w : World) (hns : ns ≤ 9223372036854775807) (hls : S.length = ns)
    (hx : ns ≠ 0 → ∃ p po, us = some ⟨p, po, none⟩ ∧ p < w.heap.size ∧ IntsAt w p po S) (hnp : np ≤ 9223372036854775807) (hlp : T.length = np)
    (hy : np ≠ 0 → ∃ p po, up = some ⟨p, po, none⟩ ∧ p < w.heap.size ∧ IntsAt w p po T) (wR : (Lit.int IntKind.i64 R).wf = true) (wS : (Lit.int IntKind.i64 S_).wf = true) :
    Calls Try.prog 5 #[fldV Ws Hs us ns cs, fldV Wp Hp up np cp, .int .i64 R, .int .i64 S_] w fun e w' => e = .returned (.bool true) ∧ Below w.heap.size w w' := by
  obtain ⟨ps, pos, hus⟩ := its_of hls hx
  obtain ⟨pp, pop, hup⟩ := its_of hlp hy
  by_cases hbm : ns + np ≤ 1048576
  · exact fnExactZigzag_small Ws Hs us ns cs S Wp Hp up np cp T R S_ ps pos pp pop w hls hus hlp hup hbm
  · exact fnExactZigzag_big Ws Hs us ns cs Wp Hp up np cp R S_ w hns hnp hbm
theorem fnExactZigzag_own : ownKnob Try.prog.godebug = none := by kernel_rfl
theorem fnExactZigzag_laidOut : laidOutB Try.prog = true := by kernel_rfl
theorem cells49 : Try.prog.cellsOf 49 = 3 := by kernel_rfl

set_option maxRecDepth 100000 in
theorem fnExactZigzag_lifted (os : Os) (started : os.Started) (H : Type) (enc : TypeId × Value → H) :
    ReturnsInHanded {} Try.checked os 5 .any (Rows.fnExactZigzagSpec.pre6 enc Try.prog Try.f5 Rows.fnExactZigzagRow.domain false) (Rows.fnExactZigzagSpec.post enc Try.prog Try.f5 false true false false) := by
  refine returnsInHanded_of_change (C := Try.checked) fnExactZigzag_own started (by kernel_rfl) Try.func5
    (ChangeSpec.witness6 (enc := enc) (C := Try.checked) false ⟨#[], #[.agg #[.int .i64 0, .int .i64 0, .slice none 0 0], .agg #[.int .i64 0, .int .i64 0, .slice none 0 0], .int .i64 0, .int .i64 0], []⟩ 8 (by kernel_rfl) (by kernel_rfl) (by kernel_rfl) (by kernel_rfl)) ?_
  intro W base args ds gs before hval0 hW hcnd _
  have hval : ∀ (j : Nat) t v, Try.f5.params[j]? = some t → args[j]? = some v → Value.okWide Try.prog W .any base t v := hval0
  have hW' := hW
  obtain ⟨p, q, hA0, hV, rfl, hfz, hnd⟩ := hW
  have hA : DataW.TrodAll enc Try.prog W 0 (fun _ => true) true Try.f5.params.toList args.toList ds p := hA0
  rw [Try.params5] at hA hval
  obtain ⟨v0, vs0, d0, ds0, p0, q0, hargs, rfl, rfl, h0, r0⟩ := trodAll_cons hA
  obtain ⟨v1, vs1, d1, ds1, p1, q1, rfl, rfl, rfl, h1, r1⟩ := trodAll_cons r0
  obtain ⟨v2, vs2, d2, ds2, p2, q2, rfl, rfl, rfl, h2, r2⟩ := trodAll_cons r1
  obtain ⟨v3, vs3, d3, ds3, p3, q3, rfl, rfl, rfl, h3, r3⟩ := trodAll_cons r2
  obtain ⟨rfl, rfl, rfl⟩ := trodAll_nil r3
  obtain rfl : args = #[v0, v1, v2, v3] := by cases args; simp_all
  obtain ⟨rfl, rfl⟩ := trodVars_none hV
  have k0 := h0
  have lt0 : ∀ x ∈ p0, x.block < W.heap.size := by obtain ⟨m, hm⟩ := k0; exact DataW.trod_lt m _ _ _ hm
  obtain ⟨c0, e0, s0, y0, x0, z0, m0, rfl, rfl, rfl, hy0, hx0, hz0⟩ := open_agg3 Try.underlying49 (by kernel_rfl) cells49 (hval 0 49 v0 rfl rfl) h0
  obtain ⟨n0, en0, _, wn0⟩ := DataW.trod_int Try.underlying3 hy0
  obtain ⟨o0, eo0, _, wo0⟩ := DataW.trod_int Try.underlying3 hx0
  simp at en0 eo0
  subst en0 eo0
  obtain ⟨a0, len0, cap0, L0, hcs0, b0, l0, w0⟩ := open_irow Try.underlying23 Try.underlying3 (by kernel_rfl) hz0
  simp at hcs0
  subst hcs0
  have k1 := h1
  have lt1 : ∀ x ∈ p1, x.block < W.heap.size := by obtain ⟨m, hm⟩ := k1; exact DataW.trod_lt m _ _ _ hm
  obtain ⟨c1, e1, s1, y1, x1, z1, m1, rfl, rfl, rfl, hy1, hx1, hz1⟩ := open_agg3 Try.underlying49 (by kernel_rfl) cells49 (hval 1 49 v1 rfl rfl) h1
  obtain ⟨n1, en1, _, wn1⟩ := DataW.trod_int Try.underlying3 hy1
  obtain ⟨o1, eo1, _, wo1⟩ := DataW.trod_int Try.underlying3 hx1
  simp at en1 eo1
  subst en1 eo1
  obtain ⟨a1, len1, cap1, L1, hcs1, b1, l1, w1⟩ := open_irow Try.underlying23 Try.underlying3 (by kernel_rfl) hz1
  simp at hcs1
  subst hcs1
  obtain ⟨a2, rfl, rfl, rfl, w2⟩ := open_int Try.underlying3 (hval 2 3 v2 rfl rfl) h2
  obtain ⟨a3, rfl, rfl, rfl, w3⟩ := open_int Try.underlying3 (hval 3 3 v3 rfl rfl) h3
  clear hA0 hval0
  refine (fnExactZigzag_walk n0 o0 a0 len0 cap0 L0 n1 o1 a1 len1 cap1 L1 a2 a3 W b0 l0 w0 b1 l1 w1 w2 w3).mono fun e W' ⟨he, bel⟩ => ?_
  subst he
  exact ⟨_, rfl, _, _, _, [], _, [], hW', trodAll_mk1 (shut_bool Try.underlying4 _), (trodAll_cons_mk (Below.trod fnExactZigzag_laidOut (by kernel_rfl) (of_decide_eq_true (by kernel_rfl)) k0 bel lt0) (trodAll_cons_mk (Below.trod fnExactZigzag_laidOut (by kernel_rfl) (of_decide_eq_true (by kernel_rfl)) k1 bel lt1) (trodAll_cons_mk (shut_int Try.underlying3 w2) (trodAll_cons_mk (shut_int Try.underlying3 w3) trodAll_mk0)))), rfl, bel.frame _, fun h => by cases h⟩

theorem fnExactZigzag_over : Rows.fnExactZigzagRow.holds Try.pinned (OpenSpec.ofChange Rows.fnExactZigzagSpec) :=
  OpenClaim.holds_of_wide 5 Try.f5 rfl rfl rfl rfl rfl rfl rfl ⟨rfl, rfl, rfl, rfl, rfl⟩ rfl rfl rfl rfl rfl (by kernel_rfl) Try.func5 (by kernel_rfl)
    (of_decide_eq_true (by kernel_rfl)) (by unfold Func.isWrapper; first | (rw [if_pos (by decide +kernel)]; kernel_rfl) | (rw [if_neg (by decide +kernel)]; exact ⟨rfl, rfl⟩))
    (fun os started H enc _ => fnExactZigzag_lifted os started H enc)

/-- The statement, as it was given. -/
theorem fnExactZigzag_holds : Rows.FnExactZigzagSaid := fnExactZigzag_over
#print axioms fnExactZigzag_holds
end Go.Proofs.Ytjhldjojkaphkaa
