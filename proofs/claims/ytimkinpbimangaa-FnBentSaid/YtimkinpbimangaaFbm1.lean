/-
  A drawn strip: two rows of numbers, whatever the code. A drawn strip, whole. StripOf: a drawn strip that is right, whatever the code. The laws' own choice out of a code, the source of choices, whatever the code. Statements of the model's Bent that draw their order, each walked alone. What two segments of one line have in common, as the model finds it, where the ends stand in their order. What two segments of one line have in common, as the model finds it, where the ends stand in their order. What two segments of one line have in common, as the model finds it, where the ends stand in their order.
-/
import Derived.Test.YtimkinpbimangaaOwnY
import Derived.Test.YtimkinpbimangaaFtP
import Derived.Test.YtimkinpbimangaaPtKit
import Derived.Test.YtimkinpbimangaaSou
import Derived.Test.YtimkinpbimangaaOwn
import Derived.Test.YtimkinpbimangaaBnMath
import Derived.Test.YtimkinpbimangaaInv2
import Derived.Test.YtimkinpbimangaaVb
import Derived.Test.YtimkinpbimangaaAlongP
namespace Go.Proofs.Ytimkinpbimangaa
open Go.ChangeShapes Go.WideShapes Go.ChangeAt Go.RowKit
set_option linter.unusedVariables false
set_option linter.unusedSimpArgs false

theorem vb.mvb {w w' : World} {g b t : Nat} {vs : List Value} (h : vb w b t vs) (x : Mv g w w') (hb : b ≠ g) : vb w' b t vs := (x.block b h.lt hb).trans h
def odds : List Int := [0, -1, 1, 2, 63, 64, 65, 4096, 4097, 9223372036854775807, -9223372036854775808, 30]
set_option maxHeartbeats 1000000 in
theorem oddS_any {B g : Nat} {k : Int} {w : World} (h : So B g k w) (n1 : k ≤ 1000000) :
    Calls Try.prog 55 #[.pointer (some ⟨g, 0, none⟩)] w fun e w' => ∃ r : Int, e = .returned (.int .i64 r) ∧ So B g (k + 3) w' ∧ Mv g w w' := by
  have HN := hide (next_any 12 (h.alloc (.cells (odds.map (Value.int .i64)).toArray 3)) (by omega) (by omega) (by omega))
  have hgl : g < w.heap.size := h.lt
  have HV := hide (vb_new w 3 (odds.map (Value.int .i64)) _ rfl)
  clear h
  go_enter Try.func55, Try.ntmps55
  go_wp2_with fail
  refine (unhide HN).mono ?_
  rintro e W ⟨r, rfl, r0, r1, hso, hmv⟩
  obtain ⟨q, rfl⟩ := Int.eq_ofNat_of_zero_le r0
  have hv := (unhide HV).mvb hmv (show w.heap.size ≠ g by omega)
  obtain ⟨x, hx⟩ : ∃ x, odds[q]? = some x := get_some (n := 12) rfl (by omega)
  have c0 := hv.cell (m := q) (x := .int .i64 x) (by rw [List.getElem?_map, hx]; rfl)
  have q1 : (q : Int) < 12 := r1
  have q2 : q < 12 := by omega
  have HSO := hide hso
  have HMV := hide hmv
  clear hv hx hso hmv HN HV r1
  go_wp2_with fail
  go_ret
  exact ⟨x, rfl, unhide HSO, (Mv.alloc (Mv.refl g w) _).trans (unhide HMV)⟩
/-- two rows of one's own, and the source -/
structure St (B g : Nat) (k : Int) (w W : World) (r1 r2 : Value) (n1 n2 : Nat) (L1 L2 : List Int) : Prop where
  so : So B g k W
  mv : Mv g w W
  p : Row W w.heap.size 3 1 r1 n1 L1
  q : Row W w.heap.size 3 1 r2 n2 L2
  d : Dj r1 r2
theorem St.bl {B g : Nat} {k : Int} {w W W' : World} {r1 r2 : Value} {n1 n2 : Nat} {L1 L2 : List Int} (h : St B g k w W r1 r2 n1 n2 L1 L2) (hb : Below W.heap.size W W') : St B g k w W' r1 r2 n1 n2 L1 L2 :=
  ⟨h.so.bel hb, h.mv.call hb, h.p.below hb, h.q.below hb, h.d⟩
theorem St.nx {B g : Nat} {k k' : Int} {w W W' : World} {r1 r2 : Value} {n1 n2 : Nat} {L1 L2 : List Int} (h : St B g k w W r1 r2 n1 n2 L1 L2) (hg : g < w.heap.size) (hm : Mv g W W') (hs : So B g k' W') : St B g k' w W' r1 r2 n1 n2 L1 L2 :=
  ⟨hs, h.mv.trans hm, h.p.mv hm hg, h.q.mv hm hg, h.d⟩
theorem St.up {B g : Nat} {k k' : Int} {w W : World} {r1 r2 : Value} {n1 n2 : Nat} {L1 L2 : List Int} (h : St B g k w W r1 r2 n1 n2 L1 L2) (hk : k ≤ k') : St B g k' w W r1 r2 n1 n2 L1 L2 := ⟨h.so.up hk, h.mv, h.p, h.q, h.d⟩
theorem mv_grown {g : Nat} {w W W' : World} {o : Option Nat} (x : Mv g w W) (hg : W.grownBy W' o) (ho : ∀ q, o = some q → w.heap.size ≤ q) : Mv g w W' :=
  ⟨hg.os.trans x.os, hg.tape.trans x.tape, hg.output.trans x.output, Nat.le_trans x.size hg.size, fun k hk h1 => (hg.block k (Nat.lt_of_lt_of_le hk x.size) (fun e => by have := ho k e.symm; omega)).trans (x.block k hk h1)⟩
theorem so_grown {B g : Nat} {k : Int} {w W W' : World} {o : Option Nat} (h : So B g k W) (hgw : g < w.heap.size) (hg : W.grownBy W' o) (ho : ∀ q, o = some q → w.heap.size ≤ q) : So B g k W' := by
  have ha := h.above
  exact h.kept (fun b hb hor => hg.block b hb (fun e => by have := ho b e.symm; omega)) hg.size
theorem St.ap1 {B g : Nat} {k : Int} {w W W' : World} {r1 r2 r1' : Value} {n1 n2 : Nat} {L1 L2 : List Int} {x : Int} (h : St B g k w W r1 r2 n1 n2 L1 L2) (hg : g < w.heap.size) (hown : W'.ownsRow w.heap.size 3 1 r1' (n1 + 1) (L1.map (Value.int .i64) ++ [x].map (Value.int .i64))) (hgr : W.grownBy W' r1.ownBlock) (hn : NewBlk W r1 r1') : St B g k w W' r1' r2 (n1 + 1) n2 (L1 ++ [x]) L2 :=
  ⟨so_grown h.so hg hgr (fun q e => (h.p.lt q e).1), mv_grown h.mv hgr (fun q e => (h.p.lt q e).1), by unfold Row; rw [List.map_append]; exact hown, h.q.grown hgr (fun q hq e => h.d.symm q hq e), (h.d.symm.new h.q hn).symm⟩
theorem St.ap2 {B g : Nat} {k : Int} {w W W' : World} {r1 r2 r2' : Value} {n1 n2 : Nat} {L1 L2 : List Int} {x : Int} (h : St B g k w W r1 r2 n1 n2 L1 L2) (hg : g < w.heap.size) (hown : W'.ownsRow w.heap.size 3 1 r2' (n2 + 1) (L2.map (Value.int .i64) ++ [x].map (Value.int .i64))) (hgr : W.grownBy W' r2.ownBlock) (hn : NewBlk W r2 r2') : St B g k w W' r1 r2' n1 (n2 + 1) L1 (L2 ++ [x]) :=
  ⟨so_grown h.so hg hgr (fun q e => (h.q.lt q e).1), mv_grown h.mv hgr (fun q e => (h.q.lt q e).1), h.p.grown hgr (fun q hq e => h.d q hq e), by unfold Row; rw [List.map_append]; exact hown, h.d.new h.p hn⟩
theorem mv_set {g b o : Nat} {w W : World} {x : Value} (h : Mv g w W) (hb : w.heap.size ≤ b) : Mv g w (W.setCell ⟨b, o, none⟩ x) := h.new hb o x
theorem St.set1 {B g b cap : Nat} {k : Int} {w W : World} {r2 : Value} {n1 n2 : Nat} {L1 L2 : List Int} (h : St B g k w W (.slice (some ⟨b, 0, none⟩) n1 cap) r2 n1 n2 L1 L2) (hg : g < w.heap.size) (j : Nat) (hj : j < n1) (x : Int) : St B g k w (W.setCell ⟨b, j, none⟩ (.int .i64 x)) (.slice (some ⟨b, 0, none⟩) n1 cap) r2 n1 n2 (L1.set j x) L2 := by
  have hb := (h.p.lt b rfl).1
  have ha := h.so.above
  exact ⟨h.so.set (by omega) (by omega) _ _, h.mv.new hb _ _, h.p.set j (by omega) x, h.q.kept' (fun q hq => Below.heap_setCell _ _ _ _ (fun e => h.d b rfl (by rw [hq, e]))), h.d⟩
theorem St.set2 {B g b cap : Nat} {k : Int} {w W : World} {r1 : Value} {n1 n2 : Nat} {L1 L2 : List Int} (h : St B g k w W r1 (.slice (some ⟨b, 0, none⟩) n2 cap) n1 n2 L1 L2) (hg : g < w.heap.size) (j : Nat) (hj : j < n2) (x : Int) : St B g k w (W.setCell ⟨b, j, none⟩ (.int .i64 x)) r1 (.slice (some ⟨b, 0, none⟩) n2 cap) n1 n2 L1 (L2.set j x) := by
  have hb := (h.q.lt b rfl).1
  have ha := h.so.above
  exact ⟨h.so.set (by omega) (by omega) _ _, h.mv.new hb _ _, h.p.kept' (fun q hq => Below.heap_setCell _ _ _ _ (fun e => h.d q hq (by rw [e]; rfl))), h.q.set j (by omega) x, h.d⟩
end Go.Proofs.Ytimkinpbimangaa

namespace Go.Proofs.Ytimkinpbimangaa
open Go.ChangeShapes Go.WideShapes Go.ChangeAt Go.RowKit
set_option linter.unusedVariables false
set_option linter.unusedSimpArgs false

set_option maxHeartbeats 8000000 in
set_option maxRecDepth 100000 in
theorem strip_any {B g : Nat} {k : Int} {w : World} (h : So B g k w) (k1 : k ≤ 100000) :
    Calls Try.prog 30 #[.pointer (some ⟨g, 0, none⟩)] w fun e w' => ∃ r1 r2 n1 n2 L1 L2, e = .returned (.tuple #[r1, r2]) ∧ St B g (k + 1000) w w' r1 r2 n1 n2 L1 L2 ∧ n1 ≤ 1000 ∧ n2 ≤ 1000 := by
  have hgl : g < w.heap.size := h.lt
  obtain ⟨iP, hi1, hp0, hp1, hp2⟩ := info_parts int_info3
  have HS0 : Hid (St B g k w ((w.alloc (.cells #[] 3)).alloc (.cells #[] 3)) (.slice (some ⟨w.heap.size, 0, none⟩) 0 0) (.slice (some ⟨w.heap.size + 1, 0, none⟩) 0 0) 0 0 [] []) := hide ⟨(h.alloc _).alloc _, ((Mv.refl g w).alloc _).alloc _, (row_made w 3 w.heap.size 1 (Nat.le_refl _) _ rfl).below (ba (Below.refl _ _) _), row_made (w.alloc (.cells #[] 3)) 3 w.heap.size 1 (by simp) _ (by simp), fun q hq e => by simp [Value.ownBlock] at hq e; omega⟩
  have HNX := hide (fun (m : Int) (m0 : 1 ≤ m) (m1 : m ≤ 1000000) (K : Int) (W : World) (hs : So B g K W) (hk : K ≤ 1000000) => next_any m hs (by omega) m0 (by omega))
  have HSZ := hide (fun (W : World) (K : Int) (hs : So B g K W) => size_any 9 hs (by omega) (by omega))
  have HOD := hide (fun (W : World) (K : Int) (hs : So B g K W) (hk : K ≤ 1000000) => oddS_any hs hk)
  clear h
  go_enter Try.func30, Try.ntmps30
  go_wp2_with fail
  refine (unhide HSZ _ _ (unhide HS0).so).mono ?_
  rintro e W0 ⟨z, rfl, z0, z1, hq⟩
  rw [hq]
  clear hq W0
  have wz : IntKind.i64.wrap (z + 2) = z + 2 := wrap_i (by omega) (by omega)
  go_wp2_with fail
  refine (unhide HNX (z + 2) (by omega) (by omega) _ _ (unhide HS0).so (by omega)).mono ?_
  rintro e W1 ⟨y, rfl, y0, y1, hso, hmv⟩
  have HS := hide ((unhide HS0).nx hgl hmv hso)
  obtain ⟨t, ht⟩ : ∃ t : Nat, 1 + y = (t : Int) := ⟨(1 + y).toNat, by omega⟩
  have wt : IntKind.i64.wrap (1 + y) = (t : Int) := by rw [ht]; exact wrap_i (by omega) (by omega)
  have t1 : 1 ≤ t := by omega
  have t2 : t ≤ 11 := by omega
  clear hso hmv HS0 ht z0 z1 wz y0 y1
  go_wp2_with fail
  go_loopw [4, 5, 6] (fun r1 r2 s W => ∃ (j n1 n2 : Nat) (L1 L2 : List Int), s = .int .i64 (j : Int) ∧ n1 + j = t ∧ n2 ≤ n1 ∧ St B g (k + 3 + 6 * (n1 : Int)) w W r1 r2 n1 n2 L1 L2) (fun _ _ s _ => (intOf s).toNat)
  case atStart => exact ⟨t, 0, 0, [], [], rfl, by omega, by omega, (unhide HS).up (by omega)⟩
  case round =>
    obtain ⟨j, n1, n2, L1, L2, rfl, hj, hn, hst⟩ := hrel
    have HS := hide hst
    clear hst
    obtain ⟨ua, ca, hua, _⟩ := (unhide HS).p.form
    obtain ⟨ub, cb, hub, _⟩ := (unhide HS).q.form
    subst hua hub
    have n0 : (0 : Int) ≤ (n1 : Int) := Int.natCast_nonneg _
    have n02 : (0 : Int) ≤ (n2 : Int) := Int.natCast_nonneg _
    by_cases hj0 : 0 < j
    · have j1 : (0 : Int) < (j : Int) := by omega
      have jz : decide ((0 : Int) < (j : Int)) = true := decide_eq_true j1
      have wj : IntKind.i64.wrap ((j : Int) - 1) = ((j - 1 : Nat) : Int) := by rw [wrap_i (by omega) (by omega)]; omega
      by_cases hn0 : 0 < n1
      · have c1 : (0 : Int) < (n1 : Int) := by omega
        have cz : decide ((0 : Int) < (n1 : Int)) = true := decide_eq_true c1
        go_wp2_with fail
        refine (unhide HNX 3 (by omega) (by omega) _ _ (unhide HS).so (by omega)).mono ?_
        rintro e W2 ⟨x, rfl, x0, x1, hso, hmv⟩
        have HS := hide ((unhide HS).nx hgl hmv hso)
        have wx : IntKind.i64.wrap (x - 1) = x - 1 := wrap_i (by omega) (by omega)
        clear hso hmv
        go_wp2_with (at_builtin; refine unhide ?_)
        refine hide ?_
        refine wpList_append_new _ rfl _ _ 23 rfl w.heap.size 3 iP _ 1 8 Try.underlying23 hi1 hp0 hp1 hp2 rfl (by decide) _ _ _ rfl ((unhide HS).q.below (ba (Below.refl _ _) _)) _ 1 1 ([x - 1].map (Value.int .i64)) rfl rfl (by first | exact news_cells _ _ rfl | exact news_cells _ _ (by simp)) ints_one (by unfold maxLen; omega) (by omega) (by have := (unhide HS).mv.size; first | omega | (simp; omega)) ?_
        intro rb' wzb hown' hgrow _ hnew
        have HS := hide (((unhide HS).bl (ba (Below.refl _ _) (Obj.cells #[Value.int .i64 (x - 1)] 3))).ap2 hgl hown' hgrow hnew)
        clear hown' hgrow hnew

        go_wp2_with fail
        refine (unhide HNX 9 (by omega) (by omega) _ _ (unhide HS).so (by omega)).mono ?_
        rintro e W3 ⟨x', rfl, x0', x1', hso, hmv⟩
        have HS := hide ((unhide HS).nx hgl hmv hso)
        have wx' : IntKind.i64.wrap (1 + x') = 1 + x' := wrap_i (by omega) (by omega)
        clear hso hmv
        go_wp2_with (at_builtin; refine unhide ?_)
        refine hide ?_
        refine wpList_append_new _ rfl _ _ 23 rfl w.heap.size 3 iP _ 1 8 Try.underlying23 hi1 hp0 hp1 hp2 rfl (by decide) _ _ _ rfl ((unhide HS).p.below (ba (Below.refl _ _) _)) _ 1 1 ([1 + x'].map (Value.int .i64)) rfl rfl (by first | exact news_cells _ _ rfl | exact news_cells _ _ (by simp)) ints_one (by unfold maxLen; omega) (by omega) (by have := (unhide HS).mv.size; first | omega | (simp; omega)) ?_
        intro ra' wza hown' hgrow _ hnew
        have HS := hide (((unhide HS).bl (ba (Below.refl _ _) (Obj.cells #[Value.int .i64 (1 + x')] 3))).ap1 hgl hown' hgrow hnew)
        clear hown' hgrow hnew

        go_wp2_with fail
        go_roundw
        case rel => first | exact ⟨j - 1, n1 + 1, n2 + 1, _, _, by simp, by omega, by omega, (unhide HS).up (by push_cast; omega)⟩ | ((repeat apply Exists.intro); refine ⟨?_, rfl⟩; exact ⟨j - 1, n1 + 1, n2 + 1, _, _, by simp, by omega, by omega, (unhide HS).up (by push_cast; omega)⟩)
        case measure => first | (simp only [intOf]; omega) | (simp [intOf]; omega)
      · have c1 : ¬ (0 : Int) < (n1 : Int) := by omega
        have cz : decide ((0 : Int) < (n1 : Int)) = false := decide_eq_false c1
        go_wp2_with fail
        refine (unhide HNX 9 (by omega) (by omega) _ _ (unhide HS).so (by omega)).mono ?_
        rintro e W3 ⟨x', rfl, x0', x1', hso, hmv⟩
        have HS := hide ((unhide HS).nx hgl hmv hso)
        have wx' : IntKind.i64.wrap (1 + x') = 1 + x' := wrap_i (by omega) (by omega)
        clear hso hmv
        go_wp2_with (at_builtin; refine unhide ?_)
        refine hide ?_
        refine wpList_append_new _ rfl _ _ 23 rfl w.heap.size 3 iP _ 1 8 Try.underlying23 hi1 hp0 hp1 hp2 rfl (by decide) _ _ _ rfl ((unhide HS).p.below (ba (Below.refl _ _) _)) _ 1 1 ([1 + x'].map (Value.int .i64)) rfl rfl (by first | exact news_cells _ _ rfl | exact news_cells _ _ (by simp)) ints_one (by unfold maxLen; omega) (by omega) (by have := (unhide HS).mv.size; first | omega | (simp; omega)) ?_
        intro ra' wza hown' hgrow _ hnew
        have HS := hide (((unhide HS).bl (ba (Below.refl _ _) (Obj.cells #[Value.int .i64 (1 + x')] 3))).ap1 hgl hown' hgrow hnew)
        clear hown' hgrow hnew

        go_wp2_with fail
        go_roundw
        case rel => first | exact ⟨j - 1, n1 + 1, n2, _, _, by simp, by omega, by omega, (unhide HS).up (by push_cast; omega)⟩ | ((repeat apply Exists.intro); refine ⟨?_, rfl⟩; exact ⟨j - 1, n1 + 1, n2, _, _, by simp, by omega, by omega, (unhide HS).up (by push_cast; omega)⟩)
        case measure => first | (simp only [intOf]; omega) | (simp [intOf]; omega)
    · have j1 : ¬ (0 : Int) < (j : Int) := by omega
      have jz : decide ((0 : Int) < (j : Int)) = false := decide_eq_false j1
      have n1p : 1 ≤ n1 := by omega
      have HJ0 : Hid (j = 0) := hide (by omega)
      go_wp2_with fail
      refine (unhide HNX 24 (by omega) (by omega) _ _ (unhide HS).so (by omega)).mono ?_
      rintro e W2 ⟨x, rfl, x0, x1, hso, hmv⟩
      have HS := hide (((unhide HS).nx hgl hmv hso).up (k' := k + 100) (by omega))
      clear hso hmv
      have HE : Hid True := hide trivial
      by_cases hx0 : x = 0
      · subst hx0
        obtain ⟨b, ca', hb', hbg, hbl, _, _⟩ := (unhide HS).p.sm (by
          intro e
          have := (unhide HS).p.2
          rw [e] at this
          rcases this with ⟨_, h0⟩ | ⟨_, _, _, h0, _⟩
          · omega
          · cases h0)
        cases hb'
        go_wp2_with fail
        refine (unhide HNX (n1 : Int) (by omega) (by omega) _ _ (unhide HS).so (by omega)).mono ?_
        rintro e W3 ⟨q, rfl, q0, q1, hso, hmv⟩
        obtain ⟨q, rfl⟩ := Int.eq_ofNat_of_zero_le q0
        have HS := hide ((unhide HS).nx hgl hmv hso)
        clear hso hmv
        go_wp2_with fail
        refine (unhide HOD _ _ (unhide HS).so (by omega)).mono ?_
        rintro e W4 ⟨o, rfl, hso, hmv⟩
        have HS := hide (((unhide HS).nx hgl hmv hso).bl (ba (Below.refl _ _) (Obj.cells (([0, 1000, 1001, o] : List Int).map (Value.int .i64)).toArray 3)))
        have HV := hide (vb_new W4 3 (([0, 1000, 1001, o] : List Int).map (Value.int .i64)) _ rfl)
        have hw4 : g < W4.heap.size := hso.lt
        clear hso hmv
        go_wp2_with fail
        refine (unhide HNX 4 (by omega) (by omega) _ _ (unhide HS).so (by omega)).mono ?_
        rintro e W5 ⟨p, rfl, p0, p1, hso, hmv⟩
        obtain ⟨p, rfl⟩ := Int.eq_ofNat_of_zero_le p0
        have hv := (unhide HV).mvb hmv (show W4.heap.size ≠ g by omega)
        obtain ⟨y, hy⟩ : ∃ y, ([0, 1000, 1001, o] : List Int)[p]? = some y := get_some (n := 4) rfl (by omega)
        have c0 := hv.cell (m := p) (x := .int .i64 y) (by rw [List.getElem?_map, hy]; rfl)
        have HS := hide ((unhide HS).nx hgl hmv hso)
        have p2 : p < 4 := by omega
        have q2 : q < n1 := by omega
        have fz := (unhide HS).p.frz
        obtain ⟨old, hold⟩ : ∃ old, L1[q]? = some old := get_some (n := n1) (by have := (unhide HS).p.len; omega) q2
        have co := (unhide HS).p.cellAt hold
        clear hv hy hso hmv HV hold
        go_wp2_with fail
        have HS := hide ((unhide HS).set1 hgl q q2 y)
        exact bodyPost_ret (v := .tuple #[.slice (some ⟨b, 0, none⟩) n1 ca, .slice ub n2 cb]) (by simp [results, Try.results30, go_sem]) rfl ⟨_, _, _, _, _, _, rfl, (unhide HS).up (by omega), by omega, by omega⟩
      by_cases hx1 : x = 1
      · subst hx1
        go_wp2_with (at_builtin; refine unhide ?_)
        refine hide ?_
        refine wpList_append_new _ rfl _ _ 23 rfl w.heap.size 3 iP _ 1 8 Try.underlying23 hi1 hp0 hp1 hp2 rfl (by decide) _ _ _ rfl ((unhide HS).q.below (ba (Below.refl _ _) _)) _ 1 1 ([1].map (Value.int .i64)) rfl rfl (by first | exact news_cells _ _ rfl | exact news_cells _ _ (by simp)) ints_one (by unfold maxLen; omega) (by omega) (by have := (unhide HS).mv.size; first | omega | (simp; omega)) ?_
        intro rb' wzb hown' hgrow _ hnew
        have HS := hide (((unhide HS).bl (ba (Below.refl _ _) (Obj.cells #[Value.int .i64 (1)] 3))).ap2 hgl hown' hgrow hnew)
        clear hown' hgrow hnew
        go_wp2_with fail
        exact bodyPost_ret (v := .tuple #[.slice ua n1 ca, rb']) (by simp [results, Try.results30, go_sem]) rfl ⟨_, _, _, _, _, _, rfl, (unhide HS).up (by omega), by omega, by omega⟩
      by_cases hx2 : x = 2
      · subst hx2
        by_cases hn2 : 0 < n2
        · have c1 : (0 : Int) < (n2 : Int) := by omega
          have cz : decide ((0 : Int) < (n2 : Int)) = true := decide_eq_true c1
          obtain ⟨b, ca', hb', hbg, hbl, _, _⟩ := (unhide HS).q.sm (by
            intro e
            have := (unhide HS).q.2
            rw [e] at this
            rcases this with ⟨_, h0⟩ | ⟨_, _, _, h0, _⟩
            · omega
            · cases h0)
          cases hb'
          go_wp2_with fail
          refine (unhide HNX (n2 : Int) (by omega) (by omega) _ _ (unhide HS).so (by omega)).mono ?_
          rintro e W3 ⟨q, rfl, q0, q1, hso, hmv⟩
          obtain ⟨q, rfl⟩ := Int.eq_ofNat_of_zero_le q0
          have HS := hide ((unhide HS).nx hgl hmv hso)
          clear hso hmv
          go_wp2_with fail
          refine (unhide HOD _ _ (unhide HS).so (by omega)).mono ?_
          rintro e W4 ⟨o, rfl, hso, hmv⟩
          have HS := hide ((unhide HS).nx hgl hmv hso)
          have q2 : q < n2 := by omega
          have fz := (unhide HS).q.frz
          obtain ⟨old, hold⟩ : ∃ old, L2[q]? = some old := get_some (n := n2) (by have := (unhide HS).q.len; omega) q2
          have co := (unhide HS).q.cellAt hold
          clear hso hmv hold
          go_wp2_with fail
          have HS := hide ((unhide HS).set2 hgl q q2 o)
          exact bodyPost_ret (v := .tuple #[.slice ua n1 ca, .slice (some ⟨b, 0, none⟩) n2 cb]) (by simp [results, Try.results30, go_sem]) rfl ⟨_, _, _, _, _, _, rfl, (unhide HS).up (by omega), by omega, by omega⟩
        · have c1 : ¬ (0 : Int) < (n2 : Int) := by omega
          have cz : decide ((0 : Int) < (n2 : Int)) = false := decide_eq_false c1
          go_wp2_with fail
          exact bodyPost_ret (v := .tuple #[.slice ua n1 ca, .slice ub n2 cb]) (by simp [results, Try.results30, go_sem]) rfl ⟨_, _, _, _, _, _, rfl, (unhide HS).up (by omega), by omega, by omega⟩
      by_cases hx3 : x = 3
      · subst hx3
        go_wp2_with fail
        go_loopw [4, 5] (fun r1 r2 W => ∃ (a b : Nat) (A C : List Int), a ≤ 41 ∧ b ≤ 41 + a ∧ St B g (k + 100 + 3 * (a : Int)) w W r1 r2 a b A C) (fun r1 _ _ => match r1 with | .slice _ n _ => 42 - n | _ => 0)
        case atStart => exact ⟨n1, n2, L1, L2, by omega, by omega, (unhide HS).up (by omega)⟩
        case round =>
          obtain ⟨a, b, A, C, ha, hb, hst⟩ := hrel
          clear HS
          have HS := hide hst
          clear hst
          obtain ⟨va, da, hva, _⟩ := (unhide HS).p.form
          obtain ⟨vc, dc, hvc, _⟩ := (unhide HS).q.form
          subst hva hvc
          have a0 : (0 : Int) ≤ (a : Int) := Int.natCast_nonneg _
          go_wp2_with fail
          refine (unhide HNX 3 (by omega) (by omega) _ _ (unhide HS).so (by omega)).mono ?_
          rintro e W3 ⟨q, rfl, q0, q1, hso, hmv⟩
          have HS := hide ((unhide HS).nx hgl hmv hso)
          have wq : IntKind.i64.wrap (39 + q) = 39 + q := wrap_i (by omega) (by omega)
          clear hso hmv
          by_cases hlt : (a : Int) < 39 + q
          · have lz : decide ((a : Int) < 39 + q) = true := decide_eq_true hlt
            go_wp2_with (at_builtin; refine unhide ?_)
            refine hide ?_
            refine wpList_append_new _ rfl _ _ 23 rfl w.heap.size 3 iP _ 1 8 Try.underlying23 hi1 hp0 hp1 hp2 rfl (by decide) _ _ _ rfl ((unhide HS).p.below (ba (Below.refl _ _) _)) _ 1 1 ([1].map (Value.int .i64)) rfl rfl (by first | exact news_cells _ _ rfl | exact news_cells _ _ (by simp)) ints_one (by unfold maxLen; omega) (by omega) (by have := (unhide HS).mv.size; first | omega | (simp; omega)) ?_
            intro ra' wza hown' hgrow _ hnew
            have HS := hide (((unhide HS).bl (ba (Below.refl _ _) (Obj.cells #[Value.int .i64 (1)] 3))).ap1 hgl hown' hgrow hnew)
            clear hown' hgrow hnew
            go_wp2_with (at_builtin; refine unhide ?_)
            refine hide ?_
            refine wpList_append_new _ rfl _ _ 23 rfl w.heap.size 3 iP _ 1 8 Try.underlying23 hi1 hp0 hp1 hp2 rfl (by decide) _ _ _ rfl ((unhide HS).q.below (ba (Below.refl _ _) _)) _ 1 1 ([0].map (Value.int .i64)) rfl rfl (by first | exact news_cells _ _ rfl | exact news_cells _ _ (by simp)) ints_one (by unfold maxLen; omega) (by omega) (by have := (unhide HS).mv.size; first | omega | (simp; omega)) ?_
            intro rb' wzb hown' hgrow _ hnew
            have HS := hide (((unhide HS).bl (ba (Below.refl _ _) (Obj.cells #[Value.int .i64 (0)] 3))).ap2 hgl hown' hgrow hnew)
            clear hown' hgrow hnew
            go_wp2_with fail
            go_roundw
            case rel => first | exact ⟨a + 1, b + 1, _, _, by omega, by omega, (unhide HS).up (by push_cast; omega)⟩ | ((repeat apply Exists.intro); refine ⟨?_, rfl⟩; exact ⟨a + 1, b + 1, _, _, by omega, by omega, (unhide HS).up (by push_cast; omega)⟩)
            case measure =>
              obtain ⟨va', da', hva', _⟩ := (unhide HS).p.form
              subst hva'
              simp
              omega
          · have lz : decide ((a : Int) < 39 + q) = false := decide_eq_false hlt
            go_wp2_with fail
            exact bodyPost_ret (v := .tuple #[.slice va a da, .slice vc b dc]) (by simp [results, Try.results30, go_sem]) rfl ⟨_, _, _, _, _, _, rfl, (unhide HS).up (by omega), by omega, by omega⟩
      have e0 : (x == 0) = false := by simp [hx0]
      have e1 : (x == 1) = false := by simp [hx1]
      have e2 : (x == 2) = false := by simp [hx2]
      have e3 : (x == 3) = false := by simp [hx3]
      go_wp2_with fail
      exact bodyPost_ret (v := .tuple #[.slice ua n1 ca, .slice ub n2 cb]) (by simp [results, Try.results30, go_sem]) rfl ⟨_, _, _, _, _, _, rfl, (unhide HS).up (by omega), by omega, by omega⟩
end Go.Proofs.Ytimkinpbimangaa

namespace Go.Proofs.Ytimkinpbimangaa
open Go.ChangeShapes Go.WideShapes Go.ChangeAt Go.RowKit
set_option linter.unusedVariables false
set_option linter.unusedSimpArgs false

/-- two rows of one's own that are a strip -/
structure Sp2 (w W : World) (r1 r2 : Value) (n1 n2 : Nat) (ps bs : List Int) : Prop where
  bel : Below w.heap.size w W
  p : Row W w.heap.size 3 1 r1 n1 ps
  q : Row W w.heap.size 3 1 r2 n2 bs
  d : Dj r1 r2
  s : stp ps bs = true
set_option maxHeartbeats 4000000 in
set_option maxRecDepth 100000 in
theorem stripOf_any (a : Option Addr) (len cap : Nat) (zs : List Int) (w : World) (hc : Code w.heap.size w a len cap zs) (hl : len ≤ 9223372036854775807) :
    Calls Try.prog 7 #[.slice a len cap] w fun e w' => ∃ r1 r2 n1 n2 ps bs, e = .returned (.tuple #[r1, r2]) ∧ Sp2 w w' r1 r2 n1 n2 ps bs := by
  have HSO := hide (source_any a len cap zs w hc hl)
  clear hc
  go_enter Try.func7, Try.ntmps7
  go_wp2_with fail
  refine (unhide HSO).mono ?_
  rintro e W0 ⟨rfl, hb0, hso0⟩
  have HB0 := hide hb0
  have HS0 := hide hso0
  clear hb0 hso0
  go_wp2_with fail
  go_loopw [5] (fun s W => ∃ i : Nat, s = .int .i64 (i : Int) ∧ i ≤ 3 ∧ Below w.heap.size w W ∧ So w.heap.size w.heap.size (1000 * (i : Int)) W) (fun s _ => 3 - (intOf s).toNat)
  case atStart => exact ⟨0, rfl, by omega, unhide HB0, (unhide HS0).up (by omega)⟩
  case round =>
    obtain ⟨i, rfl, hi, hW, hso⟩ := hrel
    have HW := hide hW
    have HSO := hide hso
    have hws := hso.lt
    clear hW hso HB0 HS0
    by_cases h : i < 3
    · have i1 : (i : Int) < 3 := by omega
      have i0 : (0 : Int) ≤ (i : Int) := Int.natCast_nonneg _
      have iz : decide ((i : Int) < 3) = true := decide_eq_true i1
      have HST := hide (strip_any (unhide HSO) (by omega))
      go_wp2_with fail
      refine (unhide HST).mono ?_
      rintro e W1 ⟨r1, r2, n1, n2, ps, bs, rfl, hst, hn1, hn2⟩
      obtain ⟨ua, ca, rfl, _⟩ := hst.p.form
      obtain ⟨ub, cb, rfl, _⟩ := hst.q.form
      have HS := hide hst
      have HB1 := hide (Mv.bel (unhide HW) hst.mv (Nat.le_refl _) (by omega))
      have HPN := hide (pnM_any ua (bo ua) 0 n1 ca ps W1 (by have := hst.p.len; omega) (by omega) hst.p.its)
      have HWI := hide (wi_any ub (bo ub) 0 n2 cb bs (-1) 1 W1 (by have := hst.q.len; omega) (by omega) hst.q.its)
      have HST2 : Hid (stp ps bs = (pnl ps && decide ((n2 : Int) = (n1 : Int) - 1) && bs.all (inR (-1) 1))) := hide (by
        unfold stp
        have h1 := hst.p.len
        have h2 := hst.q.len
        rw [show ps.length = n1 by omega, show bs.length = n2 by omega])
      clear hst HST
      go_wp2_with fail
      refine (unhide HPN).mono ?_
      rintro e W2 ⟨rfl, hq⟩
      rw [hq]
      clear hq W2
      cases hq1 : pnl ps with
      | false =>
        go_wp2_with fail
        go_roundw
        case rel => first | exact ⟨i + 1, by simp, h, unhide HB1, (unhide HS).so.up (by push_cast; omega)⟩ | ((repeat apply Exists.intro); refine ⟨?_, rfl⟩; exact ⟨i + 1, by simp, h, unhide HB1, (unhide HS).so.up (by push_cast; omega)⟩)
        case measure => first | (simp only [intOf]; omega) | (simp [intOf]; omega)
      | true =>
        by_cases hq2 : (n2 : Int) = (n1 : Int) - 1
        · have e2 : ((n2 : Int) == (n1 : Int) - 1) = true := by simp [hq2]
          have d2 : decide ((n2 : Int) = (n1 : Int) - 1) = true := decide_eq_true hq2
          have n21 : (n2 : Int) ≤ (n1 : Int) := by omega
          clear hq2
          go_wp2_with fail
          refine (unhide HWI).mono ?_
          rintro e W2 ⟨rfl, hq⟩
          rw [hq]
          clear hq W2
          cases hq3 : bs.all (inR (-1) 1) with
          | false =>
            go_wp2_with fail
            go_roundw
            case rel => first | exact ⟨i + 1, by simp, h, unhide HB1, (unhide HS).so.up (by push_cast; omega)⟩ | ((repeat apply Exists.intro); refine ⟨?_, rfl⟩; exact ⟨i + 1, by simp, h, unhide HB1, (unhide HS).so.up (by push_cast; omega)⟩)
            case measure => first | (simp only [intOf]; omega) | (simp [intOf]; omega)
          | true =>
            have HOK : Hid (stp ps bs = true) := hide (by rw [unhide HST2, hq1, hq3, d2]; rfl)
            go_wp2_with fail
            exact bodyPost_ret (v := .tuple #[.slice ua n1 ca, .slice ub n2 cb]) (by simp [results, Try.results7, go_sem]) rfl ⟨_, _, n1, n2, ps, bs, rfl, ⟨unhide HB1, (unhide HS).p.mono (by omega), (unhide HS).q.mono (by omega), (unhide HS).d, unhide HOK⟩⟩
        · have e2 : ((n2 : Int) == (n1 : Int) - 1) = false := by simp [hq2]
          go_wp2_with fail
          go_roundw
          case rel => first | exact ⟨i + 1, by simp, h, unhide HB1, (unhide HS).so.up (by push_cast; omega)⟩ | ((repeat apply Exists.intro); refine ⟨?_, rfl⟩; exact ⟨i + 1, by simp, h, unhide HB1, (unhide HS).so.up (by push_cast; omega)⟩)
          case measure => first | (simp only [intOf]; omega) | (simp [intOf]; omega)
    · have iz : decide ((i : Int) < 3) = false := decide_eq_false (by omega)
      have HR1 := hide (row_vb (B := w.heap.size) (k := 1) (n := 3) (L := [3, 4, 5]) (vb_new wr 3 [.int .i64 3, .int .i64 4, .int .i64 5] _ rfl) rfl (by omega) (by omega))
      have HR2 := hide (row_vb (B := w.heap.size) (k := 1) (n := 2) (L := [1, -1]) (vb_new (wr.alloc (.cells #[.int .i64 3, .int .i64 4, .int .i64 5] 3)) 3 [.int .i64 1, .int .i64 (-1)] (wr.heap.size + 1) (by simp)) rfl (by omega) (by omega))
      go_wp2_with fail
      exact bodyPost_ret (v := .tuple #[.slice (some ⟨wr.heap.size, 0, none⟩) 3 3, .slice (some ⟨wr.heap.size + 1, 0, none⟩) 2 2]) (by simp [results, Try.results7, go_sem]) rfl ⟨_, _, 3, 2, [3, 4, 5], [1, -1], rfl, ⟨ba (ba (unhide HW) _) _, (unhide HR1).below (ba (Below.refl _ _) _), unhide HR2, fun q hq e => by simp [Value.ownBlock] at hq e; omega, by decide⟩⟩
end Go.Proofs.Ytimkinpbimangaa

namespace Go.Proofs.Ytimkinpbimangaa
open Go.ChangeShapes Go.WideShapes Go.ChangeAt Go.RowKit
set_option linter.unusedVariables false
set_option linter.unusedSimpArgs false

set_option maxHeartbeats 1000000 in
theorem at_in (b off len cap : Nat) (i n x y : Int) (w : World) (hl0 : 1 ≤ len) (hl : len ≤ 1048576) (hi : 0 ≤ i ∧ i ≤ 100) (hn : 1 < n ∧ n ≤ 1000)
    (hx : w.cell? ⟨b, off + (i % (len : Int)).toNat, none⟩ = some (.int .u8 x)) (hy : w.cell? ⟨b, off + ((i + 1) % (len : Int)).toNat, none⟩ = some (.int .u8 y)) (bx : 0 ≤ x ∧ x ≤ 255) (by_ : 0 ≤ y ∧ y ≤ 255) :
    Calls Try.prog 14 #[.slice (some ⟨b, off, none⟩) len cap, .int .i64 i, .int .i64 n] w fun e w' => ∃ r : Int, e = .returned (.int .i64 r) ∧ 0 ≤ r ∧ r < n ∧ Below w.heap.size w w' := by
  have h1 : decide (n ≤ 1) = false := decide_eq_false (by omega)
  have h2 : ((len : Int) == 0) = false := by rw [beq_eq_false_iff_ne]; omega
  have h3 : (n == 0) = false := by rw [beq_eq_false_iff_ne]; omega
  have t1 : i.tmod (len : Int) = i % (len : Int) := Int.tmod_eq_emod_of_nonneg (by omega)
  have t2 : (i + 1).tmod (len : Int) = (i + 1) % (len : Int) := Int.tmod_eq_emod_of_nonneg (by omega)
  have e1 := Int.emod_nonneg i (b := (len : Int)) (by omega)
  have e2 := Int.emod_lt_of_pos i (b := (len : Int)) (by omega)
  have e3 := Int.emod_nonneg (i + 1) (b := (len : Int)) (by omega)
  have e4 := Int.emod_lt_of_pos (i + 1) (b := (len : Int)) (by omega)
  have q1 : i.tdiv (len : Int) = i / (len : Int) := Int.tdiv_eq_ediv_of_nonneg (by omega)
  have q2 := Int.ediv_nonneg (a := i) (b := (len : Int)) (by omega) (by omega)
  have q3 := Int.ediv_le_self (a := i) (len : Int) (by omega)
  go_enter Try.func14, Try.ntmps14
  go_wp2_with fail
  go_quiet (fail)
  go_wp2_with fail
  go_ret
  exact ⟨_, rfl, Int.emod_nonneg _ (by omega), Int.emod_lt_of_pos _ (by omega), ⟨rfl, rfl, rfl, Nat.le_refl _, fun _ _ => rfl⟩⟩

set_option maxHeartbeats 1000000 in
theorem at_any (a : Option Addr) (len cap B : Nat) (zs : List Int) (i n : Int) (w : World) (hc : Code B w a len cap zs) (hl : len ≤ 1048576) (hi : 0 ≤ i ∧ i ≤ 100) (hn : 1 ≤ n ∧ n ≤ 1000) :
    Calls Try.prog 14 #[.slice a len cap, .int .i64 i, .int .i64 n] w fun e w' => ∃ r : Int, e = .returned (.int .i64 r) ∧ 0 ≤ r ∧ r < n ∧ Below w.heap.size w w' := by
  by_cases h1 : n = 1
  · subst h1
    clear hc
    go_enter Try.func14, Try.ntmps14
    go_wp2_with fail
    go_ret
    exact ⟨0, rfl, by omega, by omega, Below.refl _ _⟩
  · rcases hc with rfl | ⟨b, off, rfl, _, _, h2, h3, h4, h5, h6⟩
    · have d1 : decide (n ≤ 1) = false := decide_eq_false (by omega)
      have d3 : (n == 0) = false := by rw [beq_eq_false_iff_ne]; omega
      have hw : IntKind.i64.wrap (i * 7) = i * 7 := wrap_i (by omega) (by omega)
      have t1 : (i * 7).tmod n = (i * 7) % n := Int.tmod_eq_emod_of_nonneg (by omega)
      go_enter Try.func14, Try.ntmps14
      go_wp2_with fail
      go_ret
      exact ⟨_, rfl, Int.emod_nonneg _ (by omega), Int.emod_lt_of_pos _ (by omega), Below.refl _ _⟩
    · by_cases h0 : len = 0
      · subst h0
        have d1 : decide (n ≤ 1) = false := decide_eq_false (by omega)
        have d3 : (n == 0) = false := by rw [beq_eq_false_iff_ne]; omega
        have hw : IntKind.i64.wrap (i * 7) = i * 7 := wrap_i (by omega) (by omega)
        have t1 : (i * 7).tmod n = (i * 7) % n := Int.tmod_eq_emod_of_nonneg (by omega)
        clear h5 h6 h4
        go_enter Try.func14, Try.ntmps14
        go_wp2_with fail
        go_ret
        exact ⟨_, rfl, Int.emod_nonneg _ (by omega), Int.emod_lt_of_pos _ (by omega), Below.refl _ _⟩
      · have e1 := Int.emod_nonneg i (b := (len : Int)) (by omega)
        have e2 := Int.emod_lt_of_pos i (b := (len : Int)) (by omega)
        have e3 := Int.emod_nonneg (i + 1) (b := (len : Int)) (by omega)
        have e4 := Int.emod_lt_of_pos (i + 1) (b := (len : Int)) (by omega)
        exact at_in b off len cap i n _ _ w (by omega) hl hi (by omega) (h5 (i % (len : Int)).toNat (by omega)) (h5 ((i + 1) % (len : Int)).toNat (by omega)) (h6 _) (h6 _)
end Go.Proofs.Ytimkinpbimangaa

namespace Go.Proofs.Ytimkinpbimangaa
open Go.ChangeShapes Go.WideShapes Go.ChangeAt Go.RowKit
set_option linter.unusedVariables false
set_option linter.unusedSimpArgs false

noncomputable def rg38 (id : Nat) : Go.Code := match Try.f38.body with | some c => (regOfZ id c).getD .skip | none => .skip
set_option maxHeartbeats 4000000 in
set_option maxRecDepth 100000 in
theorem bm12 {s1 s2 s3 s4 s5 s9 s11 s12 s13 s14 s15 s16 s17 s18 s19 s20 s21 s22 s23 s24 s25 s26 s27 s28 s29 s30 s31 s32 s33 s34 s35 s36 s37 s38 s39 s40 s41 s42 s43 s44 s45 s46 s47 s48 s49 s50 s51 s52 s53 s54 s55 s56 s57 s58 s59 s60 s61 s62 s63 s64 s65 s66 s67 s68 s69 s70 s71 s72 s73 s74 s75 s76 s77 s78 s79 s80 s81 s82 s83 s84 s85 s86 s87 s88 s89 s90 s91 s92 s93 s94 s95 s96 s97 s98 s99 s100 s101 s102 : Value} {pb po n cu g i : Nat} {v0 v1 x0 y0 l p0 p1 x1 y1 : Int} {V : World} {K_ : Act → World → Prop} 
    (HS0 : Hid (V.cell? ⟨g, 0, none⟩ = some (.int .i64 (x0)))) (HS1 : Hid (V.cell? ⟨g, 1, none⟩ = some (.int .i64 (y0)))) (HC : Hid (V.cell? ⟨pb, po + i, none⟩ = some (.int .i64 (l)))) 
    (HX5 : Hid (i < n))
    (HW7 : Hid (IntKind.i64.wrap (v0 * l) = p0))
    (HW8 : Hid (IntKind.i64.wrap (x0 + p0) = x1))
    (HX14 : Hid (i < n))
    (HW16 : Hid (IntKind.i64.wrap (v1 * l) = p1))
    (HW17 : Hid (IntKind.i64.wrap (y0 + p1) = y1))
    (hQ : ∀ (n19 : Nat)  (W1 : World), Below V.heap.size V W1 → vb W1 n19 32 [.int .i64 (x1), .int .i64 (y1)] → V.heap.size ≤ n19 → K_ { tmps := #[.slice (some ⟨pb, po, none⟩) n cu, s1, s2, s3, s4, s5, .pointer (some ⟨g, 0, none⟩), .int .i64 (v0), .int .i64 (v1), s9, .int .i64 (i : Int), s11, .pointer (some ⟨n19, 0, none⟩), s13, s14, s15, s16, s17, s18, s19, s20, s21, s22, s23, s24, s25, s26, s27, s28, s29, s30, s31, s32, s33, s34, s35, s36, s37, s38, s39, s40, s41, s42, s43, s44, s45, s46, s47, s48, s49, s50, .pointer (some ⟨g, 0, none⟩), .int .i64 (x0), .int .i64 (v0), .slice (some ⟨pb, po, none⟩) n cu, .int .i64 (i : Int), .pointer (some ⟨pb, po + i, none⟩), .int .i64 (l), .int .i64 (p0), .int .i64 (x1), .pointer (some ⟨g, 1, none⟩), .int .i64 (y0), .int .i64 (v1), .slice (some ⟨pb, po, none⟩) n cu, .int .i64 (i : Int), .pointer (some ⟨pb, po + i, none⟩), .int .i64 (l), .int .i64 (p1), .int .i64 (y1), .agg #[.int .i64 (x1), .int .i64 (y1)], s70, s71, s72, s73, s74, s75, s76, s77, s78, s79, s80, s81, s82, s83, s84, s85, s86, s87, s88, s89, s90, s91, s92, s93, s94, s95, s96, s97, s98, s99, s100, s101, s102], defers := [] } W1) :
    Go.Code.wp Try.prog (rg38 12) (Only K_) { tmps := #[.slice (some ⟨pb, po, none⟩) n cu, s1, s2, s3, s4, s5, .pointer (some ⟨g, 0, none⟩), .int .i64 (v0), .int .i64 (v1), s9, .int .i64 (i : Int), s11, s12, s13, s14, s15, s16, s17, s18, s19, s20, s21, s22, s23, s24, s25, s26, s27, s28, s29, s30, s31, s32, s33, s34, s35, s36, s37, s38, s39, s40, s41, s42, s43, s44, s45, s46, s47, s48, s49, s50, s51, s52, s53, s54, s55, s56, s57, s58, s59, s60, s61, s62, s63, s64, s65, s66, s67, s68, s69, s70, s71, s72, s73, s74, s75, s76, s77, s78, s79, s80, s81, s82, s83, s84, s85, s86, s87, s88, s89, s90, s91, s92, s93, s94, s95, s96, s97, s98, s99, s100, s101, s102], defers := [] } V := by
  have HQ := hide hQ
  clear hQ
  conv => arg 2; whnf
  refine wp_region_inv2 (fun Lb A W => ∃ (u0 u1 u2 u3 u4 u5 u6 u7 u8 u9 u10 u11 u12 u13 u14 u15 u16 u17 u18 u19 u20 : Bool) (n19 : Nat), Lb = #[u0, u1, u2, u3, u4, u5, u6, u7, u8, u9, u10, u11, u12, u13, u14, u15, u16, u17, u18, u19, u20] ∧ A = ({ tmps := #[.slice (some ⟨pb, po, none⟩) n cu, s1, s2, s3, s4, s5, .pointer (some ⟨g, 0, none⟩), .int .i64 (v0), .int .i64 (v1), s9, .int .i64 (i : Int), s11, (bif u19 then .pointer (some ⟨n19, 0, none⟩) else s12), s13, s14, s15, s16, s17, s18, s19, s20, s21, s22, s23, s24, s25, s26, s27, s28, s29, s30, s31, s32, s33, s34, s35, s36, s37, s38, s39, s40, s41, s42, s43, s44, s45, s46, s47, s48, s49, s50, (bif u0 then .pointer (some ⟨g, 0, none⟩) else s51), (bif u1 then .int .i64 (x0) else s52), (bif u2 then .int .i64 (v0) else s53), (bif u3 then .slice (some ⟨pb, po, none⟩) n cu else s54), (bif u4 then .int .i64 (i : Int) else s55), (bif u5 then .pointer (some ⟨pb, po + i, none⟩) else s56), (bif u6 then .int .i64 (l) else s57), (bif u7 then .int .i64 (p0) else s58), (bif u8 then .int .i64 (x1) else s59), (bif u9 then .pointer (some ⟨g, 1, none⟩) else s60), (bif u10 then .int .i64 (y0) else s61), (bif u11 then .int .i64 (v1) else s62), (bif u12 then .slice (some ⟨pb, po, none⟩) n cu else s63), (bif u13 then .int .i64 (i : Int) else s64), (bif u14 then .pointer (some ⟨pb, po + i, none⟩) else s65), (bif u15 then .int .i64 (l) else s66), (bif u16 then .int .i64 (p1) else s67), (bif u17 then .int .i64 (y1) else s68), (bif u18 then .agg #[.int .i64 (x1), .int .i64 (y1)] else s69), s70, s71, s72, s73, s74, s75, s76, s77, s78, s79, s80, s81, s82, s83, s84, s85, s86, s87, s88, s89, s90, s91, s92, s93, s94, s95, s96, s97, s98, s99, s100, s101, s102], defers := [] } : Act) ∧ Below V.heap.size V W ∧ (u19 = true → vb W n19 32 (bif u20 then [.int .i64 (x1), .int .i64 (y1)] else [.int .i64 (0), .int .i64 (0)]) ∧ V.heap.size ≤ n19) ∧ (u20 = true → u0 = true ∧ u1 = true ∧ u2 = true ∧ u3 = true ∧ u4 = true ∧ u5 = true ∧ u6 = true ∧ u7 = true ∧ u8 = true ∧ u9 = true ∧ u10 = true ∧ u11 = true ∧ u12 = true ∧ u13 = true ∧ u14 = true ∧ u15 = true ∧ u16 = true ∧ u17 = true ∧ u18 = true ∧ u19 = true)) (by kernel_rfl) (by kernel_rfl) ?h0 ?hstep ?hend
  case h0 =>
    exact ⟨false, false, false, false, false, false, false, false, false, false, false, false, false, false, false, false, false, false, false, false, false, 0, rfl, rfl, Below.drew (Below.refl _ _), zf, zf⟩
  case hstep =>
    intro Lb A W hI
    obtain ⟨u0, u1, u2, u3, u4, hI⟩ := hI
    obtain ⟨u5, u6, u7, u8, u9, hI⟩ := hI
    obtain ⟨u10, u11, u12, u13, u14, hI⟩ := hI
    obtain ⟨u15, u16, u17, u18, u19, hI⟩ := hI
    obtain ⟨u20, n19, hI⟩ := hI
    obtain ⟨hLb, hI⟩ := hI
    obtain ⟨hA, hI⟩ := hI
    obtain ⟨kB, hI⟩ := hI
    obtain ⟨k19, hI⟩ := hI
    have kF := hI
    clear hI
    subst hLb
    subst hA
    replace kB := hide kB
    replace k19 := hide k19
    replace kF := hide kF
    refine ⟨?_, ?_, ?_, ?_, ?_, ?_, ?_, ?_, ?_, ?_, ?_, ?_, ?_, ?_, ?_, ?_, ?_, ?_, ?_, ?_, ?_, trivial⟩
    · intro h0 hd K hK
      have z : u0 = false := h0
      have z20_ : u20 = false := znb fun hu => z.symm.trans ((zu kF hu).1)
      subst z20_
      subst z
      clear h0 hd
      rw [if_pos (by rfl)]
      go_simp
      exact unhide hK _ _ ⟨true, u1, u2, u3, u4, u5, u6, u7, u8, u9, u10, u11, u12, u13, u14, u15, u16, u17, u18, u19, false, n19, rfl, rfl, zu kB, zu k19, zf⟩
    · intro h0 hd K hK
      have z : u1 = false := h0
      have z20_ : u20 = false := znb fun hu => z.symm.trans ((zu kF hu).2.1)
      have zd : u0 = true := by
        simp [Region.binds] at hd
        simp [hd]
      obtain ⟨rfl⟩ := zd
      subst z20_
      subst z
      clear h0 hd
      rw [if_pos (by rfl)]
      have c0 := keep1 (zu kB) (unhide HS0)
      go_simp
      exact unhide hK _ _ ⟨true, true, u2, u3, u4, u5, u6, u7, u8, u9, u10, u11, u12, u13, u14, u15, u16, u17, u18, u19, false, n19, rfl, rfl, zu kB, zu k19, zf⟩
    · intro h0 hd K hK
      have z : u2 = false := h0
      have z20_ : u20 = false := znb fun hu => z.symm.trans ((zu kF hu).2.2.1)
      subst z20_
      subst z
      clear h0 hd
      rw [if_pos (by rfl)]
      go_simp
      exact unhide hK _ _ ⟨u0, u1, true, u3, u4, u5, u6, u7, u8, u9, u10, u11, u12, u13, u14, u15, u16, u17, u18, u19, false, n19, rfl, rfl, zu kB, zu k19, zf⟩
    · intro h0 hd K hK
      have z : u3 = false := h0
      have z20_ : u20 = false := znb fun hu => z.symm.trans ((zu kF hu).2.2.2.1)
      subst z20_
      subst z
      clear h0 hd
      rw [if_pos (by rfl)]
      go_simp
      exact unhide hK _ _ ⟨u0, u1, u2, true, u4, u5, u6, u7, u8, u9, u10, u11, u12, u13, u14, u15, u16, u17, u18, u19, false, n19, rfl, rfl, zu kB, zu k19, zf⟩
    · intro h0 hd K hK
      have z : u4 = false := h0
      have z20_ : u20 = false := znb fun hu => z.symm.trans ((zu kF hu).2.2.2.2.1)
      subst z20_
      subst z
      clear h0 hd
      rw [if_pos (by rfl)]
      go_simp
      exact unhide hK _ _ ⟨u0, u1, u2, u3, true, u5, u6, u7, u8, u9, u10, u11, u12, u13, u14, u15, u16, u17, u18, u19, false, n19, rfl, rfl, zu kB, zu k19, zf⟩
    · intro h0 hd K hK
      have z : u5 = false := h0
      have z20_ : u20 = false := znb fun hu => z.symm.trans ((zu kF hu).2.2.2.2.2.1)
      have zd : u3 = true ∧ u4 = true := by
        simp [Region.binds] at hd
        simp [hd]
      obtain ⟨rfl, rfl⟩ := zd
      subst z20_
      subst z
      clear h0 hd
      rw [if_pos (by rfl)]
      have q1 : i < n := unhide HX5
      have q2 : (i : Int) < (n : Int) := by omega
      go_simp
      exact unhide hK _ _ ⟨u0, u1, u2, true, true, true, u6, u7, u8, u9, u10, u11, u12, u13, u14, u15, u16, u17, u18, u19, false, n19, rfl, rfl, zu kB, zu k19, zf⟩
    · intro h0 hd K hK
      have z : u6 = false := h0
      have z20_ : u20 = false := znb fun hu => z.symm.trans ((zu kF hu).2.2.2.2.2.2.1)
      have zd : u5 = true := by
        simp [Region.binds] at hd
        simp [hd]
      obtain ⟨rfl⟩ := zd
      subst z20_
      subst z
      clear h0 hd
      rw [if_pos (by rfl)]
      have c0 := keep1 (zu kB) (unhide HC)
      go_simp
      exact unhide hK _ _ ⟨u0, u1, u2, u3, u4, true, true, u7, u8, u9, u10, u11, u12, u13, u14, u15, u16, u17, u18, u19, false, n19, rfl, rfl, zu kB, zu k19, zf⟩
    · intro h0 hd K hK
      have z : u7 = false := h0
      have z20_ : u20 = false := znb fun hu => z.symm.trans ((zu kF hu).2.2.2.2.2.2.2.1)
      have zd : u2 = true ∧ u6 = true := by
        simp [Region.binds] at hd
        simp [hd]
      obtain ⟨rfl, rfl⟩ := zd
      subst z20_
      subst z
      clear h0 hd
      rw [if_pos (by rfl)]
      have wq := unhide HW7
      go_simp
      exact unhide hK _ _ ⟨u0, u1, true, u3, u4, u5, true, true, u8, u9, u10, u11, u12, u13, u14, u15, u16, u17, u18, u19, false, n19, rfl, rfl, zu kB, zu k19, zf⟩
    · intro h0 hd K hK
      have z : u8 = false := h0
      have z20_ : u20 = false := znb fun hu => z.symm.trans ((zu kF hu).2.2.2.2.2.2.2.2.1)
      have zd : u1 = true ∧ u7 = true := by
        simp [Region.binds] at hd
        simp [hd]
      obtain ⟨rfl, rfl⟩ := zd
      subst z20_
      subst z
      clear h0 hd
      rw [if_pos (by rfl)]
      have wq := unhide HW8
      go_simp
      exact unhide hK _ _ ⟨u0, true, u2, u3, u4, u5, u6, true, true, u9, u10, u11, u12, u13, u14, u15, u16, u17, u18, u19, false, n19, rfl, rfl, zu kB, zu k19, zf⟩
    · intro h0 hd K hK
      have z : u9 = false := h0
      have z20_ : u20 = false := znb fun hu => z.symm.trans ((zu kF hu).2.2.2.2.2.2.2.2.2.1)
      subst z20_
      subst z
      clear h0 hd
      rw [if_pos (by rfl)]
      go_simp
      exact unhide hK _ _ ⟨u0, u1, u2, u3, u4, u5, u6, u7, u8, true, u10, u11, u12, u13, u14, u15, u16, u17, u18, u19, false, n19, rfl, rfl, zu kB, zu k19, zf⟩
    · intro h0 hd K hK
      have z : u10 = false := h0
      have z20_ : u20 = false := znb fun hu => z.symm.trans ((zu kF hu).2.2.2.2.2.2.2.2.2.2.1)
      have zd : u9 = true := by
        simp [Region.binds] at hd
        simp [hd]
      obtain ⟨rfl⟩ := zd
      subst z20_
      subst z
      clear h0 hd
      rw [if_pos (by rfl)]
      have c0 := keep1 (zu kB) (unhide HS1)
      go_simp
      exact unhide hK _ _ ⟨u0, u1, u2, u3, u4, u5, u6, u7, u8, true, true, u11, u12, u13, u14, u15, u16, u17, u18, u19, false, n19, rfl, rfl, zu kB, zu k19, zf⟩
    · intro h0 hd K hK
      have z : u11 = false := h0
      have z20_ : u20 = false := znb fun hu => z.symm.trans ((zu kF hu).2.2.2.2.2.2.2.2.2.2.2.1)
      subst z20_
      subst z
      clear h0 hd
      rw [if_pos (by rfl)]
      go_simp
      exact unhide hK _ _ ⟨u0, u1, u2, u3, u4, u5, u6, u7, u8, u9, u10, true, u12, u13, u14, u15, u16, u17, u18, u19, false, n19, rfl, rfl, zu kB, zu k19, zf⟩
    · intro h0 hd K hK
      have z : u12 = false := h0
      have z20_ : u20 = false := znb fun hu => z.symm.trans ((zu kF hu).2.2.2.2.2.2.2.2.2.2.2.2.1)
      subst z20_
      subst z
      clear h0 hd
      rw [if_pos (by rfl)]
      go_simp
      exact unhide hK _ _ ⟨u0, u1, u2, u3, u4, u5, u6, u7, u8, u9, u10, u11, true, u13, u14, u15, u16, u17, u18, u19, false, n19, rfl, rfl, zu kB, zu k19, zf⟩
    · intro h0 hd K hK
      have z : u13 = false := h0
      have z20_ : u20 = false := znb fun hu => z.symm.trans ((zu kF hu).2.2.2.2.2.2.2.2.2.2.2.2.2.1)
      subst z20_
      subst z
      clear h0 hd
      rw [if_pos (by rfl)]
      go_simp
      exact unhide hK _ _ ⟨u0, u1, u2, u3, u4, u5, u6, u7, u8, u9, u10, u11, u12, true, u14, u15, u16, u17, u18, u19, false, n19, rfl, rfl, zu kB, zu k19, zf⟩
    · intro h0 hd K hK
      have z : u14 = false := h0
      have z20_ : u20 = false := znb fun hu => z.symm.trans ((zu kF hu).2.2.2.2.2.2.2.2.2.2.2.2.2.2.1)
      have zd : u12 = true ∧ u13 = true := by
        simp [Region.binds] at hd
        simp [hd]
      obtain ⟨rfl, rfl⟩ := zd
      subst z20_
      subst z
      clear h0 hd
      rw [if_pos (by rfl)]
      have q1 : i < n := unhide HX14
      have q2 : (i : Int) < (n : Int) := by omega
      go_simp
      exact unhide hK _ _ ⟨u0, u1, u2, u3, u4, u5, u6, u7, u8, u9, u10, u11, true, true, true, u15, u16, u17, u18, u19, false, n19, rfl, rfl, zu kB, zu k19, zf⟩
    · intro h0 hd K hK
      have z : u15 = false := h0
      have z20_ : u20 = false := znb fun hu => z.symm.trans ((zu kF hu).2.2.2.2.2.2.2.2.2.2.2.2.2.2.2.1)
      have zd : u14 = true := by
        simp [Region.binds] at hd
        simp [hd]
      obtain ⟨rfl⟩ := zd
      subst z20_
      subst z
      clear h0 hd
      rw [if_pos (by rfl)]
      have c0 := keep1 (zu kB) (unhide HC)
      go_simp
      exact unhide hK _ _ ⟨u0, u1, u2, u3, u4, u5, u6, u7, u8, u9, u10, u11, u12, u13, true, true, u16, u17, u18, u19, false, n19, rfl, rfl, zu kB, zu k19, zf⟩
    · intro h0 hd K hK
      have z : u16 = false := h0
      have z20_ : u20 = false := znb fun hu => z.symm.trans ((zu kF hu).2.2.2.2.2.2.2.2.2.2.2.2.2.2.2.2.1)
      have zd : u11 = true ∧ u15 = true := by
        simp [Region.binds] at hd
        simp [hd]
      obtain ⟨rfl, rfl⟩ := zd
      subst z20_
      subst z
      clear h0 hd
      rw [if_pos (by rfl)]
      have wq := unhide HW16
      go_simp
      exact unhide hK _ _ ⟨u0, u1, u2, u3, u4, u5, u6, u7, u8, u9, u10, true, u12, u13, u14, true, true, u17, u18, u19, false, n19, rfl, rfl, zu kB, zu k19, zf⟩
    · intro h0 hd K hK
      have z : u17 = false := h0
      have z20_ : u20 = false := znb fun hu => z.symm.trans ((zu kF hu).2.2.2.2.2.2.2.2.2.2.2.2.2.2.2.2.2.1)
      have zd : u10 = true ∧ u16 = true := by
        simp [Region.binds] at hd
        simp [hd]
      obtain ⟨rfl, rfl⟩ := zd
      subst z20_
      subst z
      clear h0 hd
      rw [if_pos (by rfl)]
      have wq := unhide HW17
      go_simp
      exact unhide hK _ _ ⟨u0, u1, u2, u3, u4, u5, u6, u7, u8, u9, true, u11, u12, u13, u14, u15, true, true, u18, u19, false, n19, rfl, rfl, zu kB, zu k19, zf⟩
    · intro h0 hd K hK
      have z : u18 = false := h0
      have z20_ : u20 = false := znb fun hu => z.symm.trans ((zu kF hu).2.2.2.2.2.2.2.2.2.2.2.2.2.2.2.2.2.2.1)
      have zd : u8 = true ∧ u17 = true := by
        simp [Region.binds] at hd
        simp [hd]
      obtain ⟨rfl, rfl⟩ := zd
      subst z20_
      subst z
      clear h0 hd
      rw [if_pos (by rfl)]
      go_simp
      exact unhide hK _ _ ⟨u0, u1, u2, u3, u4, u5, u6, u7, true, u9, u10, u11, u12, u13, u14, u15, u16, true, true, u19, false, n19, rfl, rfl, zu kB, zu k19, zf⟩
    · intro h0 hd K hK
      have z : u19 = false := h0
      have z20_ : u20 = false := znb fun hu => z.symm.trans ((zu kF hu).2.2.2.2.2.2.2.2.2.2.2.2.2.2.2.2.2.2.2)
      subst z20_
      subst z
      clear h0 hd
      rw [if_pos (by rfl)]
      go_simp
      exact unhide hK _ _ ⟨u0, u1, u2, u3, u4, u5, u6, u7, u8, u9, u10, u11, u12, u13, u14, u15, u16, u17, u18, true, false, W.heap.size, rfl, rfl, ba (zu kB) _, (fun _ => ⟨vb_new W 32 _ _ rfl, (zu kB).size⟩), zf⟩
    · intro h0 hd K hK
      have z : u20 = false := h0
      have zd0 : u0 = true ∧ u1 = true ∧ u2 = true ∧ u3 = true ∧ u4 = true ∧ u5 = true ∧ u6 = true ∧ u7 = true ∧ u8 = true ∧ u9 = true ∧ u10 = true ∧ u11 = true ∧ u12 = true ∧ u13 = true ∧ u14 = true ∧ u15 = true ∧ u16 = true ∧ u17 = true ∧ u18 = true ∧ u19 = true := by
        simp [Region.binds] at hd
        simp [hd]
      have zd : u0 = true ∧ u1 = true ∧ u2 = true ∧ u3 = true ∧ u4 = true ∧ u5 = true ∧ u6 = true ∧ u7 = true ∧ u8 = true ∧ u9 = true ∧ u10 = true ∧ u11 = true ∧ u12 = true ∧ u13 = true ∧ u14 = true ∧ u15 = true ∧ u16 = true ∧ u17 = true ∧ u18 = true ∧ u19 = true := ⟨zd0.1, zd0.2.1, zd0.2.2.1, zd0.2.2.2.1, zd0.2.2.2.2.1, zd0.2.2.2.2.2.1, zd0.2.2.2.2.2.2.1, zd0.2.2.2.2.2.2.2.1, zd0.2.2.2.2.2.2.2.2.1, zd0.2.2.2.2.2.2.2.2.2.1, zd0.2.2.2.2.2.2.2.2.2.2.1, zd0.2.2.2.2.2.2.2.2.2.2.2.1, zd0.2.2.2.2.2.2.2.2.2.2.2.2.1, zd0.2.2.2.2.2.2.2.2.2.2.2.2.2.1, zd0.2.2.2.2.2.2.2.2.2.2.2.2.2.2.1, zd0.2.2.2.2.2.2.2.2.2.2.2.2.2.2.2.1, zd0.2.2.2.2.2.2.2.2.2.2.2.2.2.2.2.2.1, zd0.2.2.2.2.2.2.2.2.2.2.2.2.2.2.2.2.2.1, zd0.2.2.2.2.2.2.2.2.2.2.2.2.2.2.2.2.2.2.1, zd0.2.2.2.2.2.2.2.2.2.2.2.2.2.2.2.2.2.2.2⟩
      obtain ⟨rfl, rfl, rfl, rfl, rfl, rfl, rfl, rfl, rfl, rfl, rfl, rfl, rfl, rfl, rfl, rfl, rfl, rfl, rfl, rfl⟩ := zd
      subst z
      clear h0 hd
      rw [if_pos (by rfl)]
      have v1 := (zu k19 rfl).1
      have g9 := (zu k19 rfl).2
      have fz := v1.frozen
      have q0 := v1.cell (m := 0) rfl
      have q1 := v1.cell (m := 1) rfl
      have HV1 := hide v1
      clear v1
      go_simp
      exact unhide hK _ _ ⟨true, true, true, true, true, true, true, true, true, true, true, true, true, true, true, true, true, true, true, true, true, n19, rfl, rfl, (((((zu kB)).setCell (p := ⟨n19, 0, none⟩) g9 _)).setCell (p := ⟨n19, 1, none⟩) g9 _), (fun _ => ⟨(((unhide HV1).set 0 _).set 1 _), g9⟩), (fun _ => ⟨rfl, rfl, rfl, rfl, rfl, rfl, rfl, rfl, rfl, rfl, rfl, rfl, rfl, rfl, rfl, rfl, rfl, rfl, rfl, rfl⟩)⟩
  case hend =>
    intro Lb A W hI
    obtain ⟨u0, u1, u2, u3, u4, hI⟩ := hI
    obtain ⟨u5, u6, u7, u8, u9, hI⟩ := hI
    obtain ⟨u10, u11, u12, u13, u14, hI⟩ := hI
    obtain ⟨u15, u16, u17, u18, u19, hI⟩ := hI
    obtain ⟨u20, n19, hI⟩ := hI
    obtain ⟨hLb, hI⟩ := hI
    obtain ⟨hA, hI⟩ := hI
    obtain ⟨kB, hI⟩ := hI
    obtain ⟨k19, hI⟩ := hI
    have kF := hI
    clear hI
    subst hLb
    subst hA
    intro hL
    have hl : u0 = true ∧ u1 = true ∧ u2 = true ∧ u3 = true ∧ u4 = true ∧ u5 = true ∧ u6 = true ∧ u7 = true ∧ u8 = true ∧ u9 = true ∧ u10 = true ∧ u11 = true ∧ u12 = true ∧ u13 = true ∧ u14 = true ∧ u15 = true ∧ u16 = true ∧ u17 = true ∧ u18 = true ∧ u19 = true ∧ u20 = true := by
      have h2 := congrArg Array.toList hL
      simpa [List.replicate] using h2
    obtain ⟨rfl, rfl, rfl, rfl, rfl, rfl, rfl, rfl, rfl, rfl, rfl, rfl, rfl, rfl, rfl, rfl, rfl, rfl, rfl, rfl, rfl⟩ := hl
    exact unhide HQ n19  W kB (k19 rfl).1 (k19 rfl).2

set_option maxHeartbeats 4000000 in
set_option maxRecDepth 100000 in
theorem bm16 {s0 s1 s2 s3 s4 s5 s7 s8 s10 s11 s14 s15 s16 s17 s18 s19 s20 s21 s22 s23 s24 s25 s26 s27 s28 s29 s30 s31 s32 s33 s34 s35 s36 s37 s38 s39 s40 s41 s42 s43 s44 s45 s46 s47 s48 s49 s50 s51 s52 s53 s54 s55 s56 s57 s58 s59 s60 s61 s62 s63 s64 s65 s66 s67 s68 s69 s70 s71 s72 s73 s74 s75 s76 s77 s78 s79 s80 s81 s82 s83 s84 s85 s86 s87 s88 s89 s90 s91 s92 s93 s94 s95 s96 s97 s98 s99 s100 s101 s102 : Value} {b n cap g h i j : Nat} {x0 y0 x1 y1 x2 y2 x3 y3 : Int} {Pq : Value → Prop} {V : World} {K_ : Act → World → Prop} 
    (HA0 : Hid (V.cell? ⟨b, i * 2, none⟩ = some (.int .i64 (x0)))) (HA1 : Hid (V.cell? ⟨b, i * 2 + 1, none⟩ = some (.int .i64 (y0)))) (HB0 : Hid (V.cell? ⟨b, j * 2, none⟩ = some (.int .i64 (x1)))) (HB1 : Hid (V.cell? ⟨b, j * 2 + 1, none⟩ = some (.int .i64 (y1)))) (HG0 : Hid (V.cell? ⟨g, 0, none⟩ = some (.int .i64 (x2)))) (HG1 : Hid (V.cell? ⟨g, 1, none⟩ = some (.int .i64 (y2)))) (HH0 : Hid (V.cell? ⟨h, 0, none⟩ = some (.int .i64 (x3)))) (HH1 : Hid (V.cell? ⟨h, 1, none⟩ = some (.int .i64 (y3)))) 
    (HX2 : Hid (i < n))
    (HW6 : Hid (IntKind.i64.wrap ((i : Int) + 1) = (j : Int)))
    (HX7 : Hid (j < n))
    (HF11 : Hid (∀ Xw, Below V.heap.size V Xw → Calls Try.prog 61 #[.agg #[.int .i64 (x0), .int .i64 (y0)], .agg #[.int .i64 (x1), .int .i64 (y1)], .agg #[.int .i64 (x2), .int .i64 (y2)], .agg #[.int .i64 (x3), .int .i64 (y3)]] Xw fun e w' => (∃ r_, e = .returned r_ ∧ Pq r_) ∧ Below Xw.heap.size Xw w'))
    (hQ : ∀  (sv : Value) (W1 : World), Below V.heap.size V W1 → Pq sv → K_ { tmps := #[s0, s1, s2, s3, s4, s5, .pointer (some ⟨g, 0, none⟩), s7, s8, .slice (some ⟨b, 0, none⟩) n cap, s10, s11, .pointer (some ⟨h, 0, none⟩), .int .i64 (i : Int), sv, s15, s16, s17, s18, s19, s20, s21, s22, s23, s24, s25, s26, s27, s28, s29, s30, s31, s32, s33, s34, s35, s36, s37, s38, s39, s40, s41, s42, s43, s44, s45, s46, s47, s48, s49, s50, s51, s52, s53, s54, s55, s56, s57, s58, s59, s60, s61, s62, s63, s64, s65, s66, s67, s68, s69, s70, s71, s72, s73, s74, .slice (some ⟨b, 0, none⟩) n cap, .int .i64 (i : Int), .pointer (some ⟨b, i * 2, none⟩), .agg #[.int .i64 (x0), .int .i64 (y0)], .slice (some ⟨b, 0, none⟩) n cap, .int .i64 (i : Int), .int .i64 (j : Int), .pointer (some ⟨b, j * 2, none⟩), .agg #[.int .i64 (x1), .int .i64 (y1)], .agg #[.int .i64 (x2), .int .i64 (y2)], .agg #[.int .i64 (x3), .int .i64 (y3)], sv, s87, s88, s89, s90, s91, s92, s93, s94, s95, s96, s97, s98, s99, s100, s101, s102], defers := [] } W1) :
    Go.Code.wp Try.prog (rg38 16) (Only K_) { tmps := #[s0, s1, s2, s3, s4, s5, .pointer (some ⟨g, 0, none⟩), s7, s8, .slice (some ⟨b, 0, none⟩) n cap, s10, s11, .pointer (some ⟨h, 0, none⟩), .int .i64 (i : Int), s14, s15, s16, s17, s18, s19, s20, s21, s22, s23, s24, s25, s26, s27, s28, s29, s30, s31, s32, s33, s34, s35, s36, s37, s38, s39, s40, s41, s42, s43, s44, s45, s46, s47, s48, s49, s50, s51, s52, s53, s54, s55, s56, s57, s58, s59, s60, s61, s62, s63, s64, s65, s66, s67, s68, s69, s70, s71, s72, s73, s74, s75, s76, s77, s78, s79, s80, s81, s82, s83, s84, s85, s86, s87, s88, s89, s90, s91, s92, s93, s94, s95, s96, s97, s98, s99, s100, s101, s102], defers := [] } V := by
  have HQ := hide hQ
  clear hQ
  conv => arg 2; whnf
  refine wp_region_inv2 (fun Lb A W => ∃ (u0 u1 u2 u3 u4 u5 u6 u7 u8 u9 u10 u11 u12 : Bool) (sv : Value), Lb = #[u0, u1, u2, u3, u4, u5, u6, u7, u8, u9, u10, u11, u12] ∧ A = ({ tmps := #[s0, s1, s2, s3, s4, s5, .pointer (some ⟨g, 0, none⟩), s7, s8, .slice (some ⟨b, 0, none⟩) n cap, s10, s11, .pointer (some ⟨h, 0, none⟩), .int .i64 (i : Int), (bif u12 then sv else s14), s15, s16, s17, s18, s19, s20, s21, s22, s23, s24, s25, s26, s27, s28, s29, s30, s31, s32, s33, s34, s35, s36, s37, s38, s39, s40, s41, s42, s43, s44, s45, s46, s47, s48, s49, s50, s51, s52, s53, s54, s55, s56, s57, s58, s59, s60, s61, s62, s63, s64, s65, s66, s67, s68, s69, s70, s71, s72, s73, s74, (bif u0 then .slice (some ⟨b, 0, none⟩) n cap else s75), (bif u1 then .int .i64 (i : Int) else s76), (bif u2 then .pointer (some ⟨b, i * 2, none⟩) else s77), (bif u3 then .agg #[.int .i64 (x0), .int .i64 (y0)] else s78), (bif u4 then .slice (some ⟨b, 0, none⟩) n cap else s79), (bif u5 then .int .i64 (i : Int) else s80), (bif u6 then .int .i64 (j : Int) else s81), (bif u7 then .pointer (some ⟨b, j * 2, none⟩) else s82), (bif u8 then .agg #[.int .i64 (x1), .int .i64 (y1)] else s83), (bif u9 then .agg #[.int .i64 (x2), .int .i64 (y2)] else s84), (bif u10 then .agg #[.int .i64 (x3), .int .i64 (y3)] else s85), (bif u11 then sv else s86), s87, s88, s89, s90, s91, s92, s93, s94, s95, s96, s97, s98, s99, s100, s101, s102], defers := [] } : Act) ∧ Below V.heap.size V W ∧ (u11 = true → Pq sv) ∧ (u12 = true → u0 = true ∧ u1 = true ∧ u2 = true ∧ u3 = true ∧ u4 = true ∧ u5 = true ∧ u6 = true ∧ u7 = true ∧ u8 = true ∧ u9 = true ∧ u10 = true ∧ u11 = true)) (by kernel_rfl) (by kernel_rfl) ?h0 ?hstep ?hend
  case h0 =>
    exact ⟨false, false, false, false, false, false, false, false, false, false, false, false, false, undef, rfl, rfl, Below.drew (Below.refl _ _), zf, zf⟩
  case hstep =>
    intro Lb A W hI
    obtain ⟨u0, u1, u2, u3, u4, hI⟩ := hI
    obtain ⟨u5, u6, u7, u8, u9, hI⟩ := hI
    obtain ⟨u10, u11, u12, sv, hI⟩ := hI
    obtain ⟨hLb, hI⟩ := hI
    obtain ⟨hA, hI⟩ := hI
    obtain ⟨kB, hI⟩ := hI
    obtain ⟨kx11, hI⟩ := hI
    have kF := hI
    clear hI
    subst hLb
    subst hA
    replace kB := hide kB
    replace kx11 := hide kx11
    replace kF := hide kF
    refine ⟨?_, ?_, ?_, ?_, ?_, ?_, ?_, ?_, ?_, ?_, ?_, ?_, ?_, trivial⟩
    · intro h0 hd K hK
      have z : u0 = false := h0
      have z12_ : u12 = false := znb fun hu => z.symm.trans ((zu kF hu).1)
      subst z12_
      subst z
      clear h0 hd
      rw [if_pos (by rfl)]
      go_simp
      exact unhide hK _ _ ⟨true, u1, u2, u3, u4, u5, u6, u7, u8, u9, u10, u11, false, sv, rfl, rfl, zu kB, zu kx11, zf⟩
    · intro h0 hd K hK
      have z : u1 = false := h0
      have z12_ : u12 = false := znb fun hu => z.symm.trans ((zu kF hu).2.1)
      subst z12_
      subst z
      clear h0 hd
      rw [if_pos (by rfl)]
      go_simp
      exact unhide hK _ _ ⟨u0, true, u2, u3, u4, u5, u6, u7, u8, u9, u10, u11, false, sv, rfl, rfl, zu kB, zu kx11, zf⟩
    · intro h0 hd K hK
      have z : u2 = false := h0
      have z12_ : u12 = false := znb fun hu => z.symm.trans ((zu kF hu).2.2.1)
      have zd : u0 = true ∧ u1 = true := by
        simp [Region.binds] at hd
        simp [hd]
      obtain ⟨rfl, rfl⟩ := zd
      subst z12_
      subst z
      clear h0 hd
      rw [if_pos (by rfl)]
      have q1 : i < n := unhide HX2
      have q2 : (i : Int) < (n : Int) := by omega
      go_simp
      exact unhide hK _ _ ⟨true, true, true, u3, u4, u5, u6, u7, u8, u9, u10, u11, false, sv, rfl, rfl, zu kB, zu kx11, zf⟩
    · intro h0 hd K hK
      have z : u3 = false := h0
      have z12_ : u12 = false := znb fun hu => z.symm.trans ((zu kF hu).2.2.2.1)
      have zd : u2 = true := by
        simp [Region.binds] at hd
        simp [hd]
      obtain ⟨rfl⟩ := zd
      subst z12_
      subst z
      clear h0 hd
      rw [if_pos (by rfl)]
      have c0 := keep1 (zu kB) (unhide HA0)
      have c1 := keep1 (zu kB) (unhide HA1)
      go_simp
      exact unhide hK _ _ ⟨u0, u1, true, true, u4, u5, u6, u7, u8, u9, u10, u11, false, sv, rfl, rfl, zu kB, zu kx11, zf⟩
    · intro h0 hd K hK
      have z : u4 = false := h0
      have z12_ : u12 = false := znb fun hu => z.symm.trans ((zu kF hu).2.2.2.2.1)
      subst z12_
      subst z
      clear h0 hd
      rw [if_pos (by rfl)]
      go_simp
      exact unhide hK _ _ ⟨u0, u1, u2, u3, true, u5, u6, u7, u8, u9, u10, u11, false, sv, rfl, rfl, zu kB, zu kx11, zf⟩
    · intro h0 hd K hK
      have z : u5 = false := h0
      have z12_ : u12 = false := znb fun hu => z.symm.trans ((zu kF hu).2.2.2.2.2.1)
      subst z12_
      subst z
      clear h0 hd
      rw [if_pos (by rfl)]
      go_simp
      exact unhide hK _ _ ⟨u0, u1, u2, u3, u4, true, u6, u7, u8, u9, u10, u11, false, sv, rfl, rfl, zu kB, zu kx11, zf⟩
    · intro h0 hd K hK
      have z : u6 = false := h0
      have z12_ : u12 = false := znb fun hu => z.symm.trans ((zu kF hu).2.2.2.2.2.2.1)
      have zd : u5 = true := by
        simp [Region.binds] at hd
        simp [hd]
      obtain ⟨rfl⟩ := zd
      subst z12_
      subst z
      clear h0 hd
      rw [if_pos (by rfl)]
      have wq := unhide HW6
      go_simp
      exact unhide hK _ _ ⟨u0, u1, u2, u3, u4, true, true, u7, u8, u9, u10, u11, false, sv, rfl, rfl, zu kB, zu kx11, zf⟩
    · intro h0 hd K hK
      have z : u7 = false := h0
      have z12_ : u12 = false := znb fun hu => z.symm.trans ((zu kF hu).2.2.2.2.2.2.2.1)
      have zd : u4 = true ∧ u6 = true := by
        simp [Region.binds] at hd
        simp [hd]
      obtain ⟨rfl, rfl⟩ := zd
      subst z12_
      subst z
      clear h0 hd
      rw [if_pos (by rfl)]
      have q1 : j < n := unhide HX7
      have q2 : (j : Int) < (n : Int) := by omega
      go_simp
      exact unhide hK _ _ ⟨u0, u1, u2, u3, true, u5, true, true, u8, u9, u10, u11, false, sv, rfl, rfl, zu kB, zu kx11, zf⟩
    · intro h0 hd K hK
      have z : u8 = false := h0
      have z12_ : u12 = false := znb fun hu => z.symm.trans ((zu kF hu).2.2.2.2.2.2.2.2.1)
      have zd : u7 = true := by
        simp [Region.binds] at hd
        simp [hd]
      obtain ⟨rfl⟩ := zd
      subst z12_
      subst z
      clear h0 hd
      rw [if_pos (by rfl)]
      have c0 := keep1 (zu kB) (unhide HB0)
      have c1 := keep1 (zu kB) (unhide HB1)
      go_simp
      exact unhide hK _ _ ⟨u0, u1, u2, u3, u4, u5, u6, true, true, u9, u10, u11, false, sv, rfl, rfl, zu kB, zu kx11, zf⟩
    · intro h0 hd K hK
      have z : u9 = false := h0
      have z12_ : u12 = false := znb fun hu => z.symm.trans ((zu kF hu).2.2.2.2.2.2.2.2.2.1)
      subst z12_
      subst z
      clear h0 hd
      rw [if_pos (by rfl)]
      have c0 := keep1 (zu kB) (unhide HG0)
      have c1 := keep1 (zu kB) (unhide HG1)
      go_simp
      exact unhide hK _ _ ⟨u0, u1, u2, u3, u4, u5, u6, u7, u8, true, u10, u11, false, sv, rfl, rfl, zu kB, zu kx11, zf⟩
    · intro h0 hd K hK
      have z : u10 = false := h0
      have z12_ : u12 = false := znb fun hu => z.symm.trans ((zu kF hu).2.2.2.2.2.2.2.2.2.2.1)
      subst z12_
      subst z
      clear h0 hd
      rw [if_pos (by rfl)]
      have c0 := keep1 (zu kB) (unhide HH0)
      have c1 := keep1 (zu kB) (unhide HH1)
      go_simp
      exact unhide hK _ _ ⟨u0, u1, u2, u3, u4, u5, u6, u7, u8, u9, true, u11, false, sv, rfl, rfl, zu kB, zu kx11, zf⟩
    · intro h0 hd K hK
      have z : u11 = false := h0
      have z12_ : u12 = false := znb fun hu => z.symm.trans ((zu kF hu).2.2.2.2.2.2.2.2.2.2.2)
      have zd : u3 = true ∧ u8 = true ∧ u9 = true ∧ u10 = true := by
        simp [Region.binds] at hd
        simp [hd]
      obtain ⟨rfl, rfl, rfl, rfl⟩ := zd
      subst z12_
      subst z
      clear h0 hd
      rw [if_pos (by rfl)]
      go_simp
      refine (unhide HF11 W (zu kB)).mono ?_
      rintro e w8 ⟨⟨r_, rfl, hr_⟩, hb8⟩
      exact unhide hK _ _ ⟨u0, u1, u2, true, u4, u5, u6, u7, true, true, true, true, false, r_, rfl, rfl, bc (zu kB) hb8, (fun _ => hr_), zf⟩
    · intro h0 hd K hK
      have z : u12 = false := h0
      have zd0 : u0 = true ∧ u1 = true ∧ u2 = true ∧ u3 = true ∧ u4 = true ∧ u5 = true ∧ u6 = true ∧ u7 = true ∧ u8 = true ∧ u9 = true ∧ u10 = true ∧ u11 = true := by
        simp [Region.binds] at hd
        simp [hd]
      have zd : u0 = true ∧ u1 = true ∧ u2 = true ∧ u3 = true ∧ u4 = true ∧ u5 = true ∧ u6 = true ∧ u7 = true ∧ u8 = true ∧ u9 = true ∧ u10 = true ∧ u11 = true := ⟨zd0.1, zd0.2.1, zd0.2.2.1, zd0.2.2.2.1, zd0.2.2.2.2.1, zd0.2.2.2.2.2.1, zd0.2.2.2.2.2.2.1, zd0.2.2.2.2.2.2.2.1, zd0.2.2.2.2.2.2.2.2.1, zd0.2.2.2.2.2.2.2.2.2.1, zd0.2.2.2.2.2.2.2.2.2.2.1, zd0.2.2.2.2.2.2.2.2.2.2.2⟩
      obtain ⟨rfl, rfl, rfl, rfl, rfl, rfl, rfl, rfl, rfl, rfl, rfl, rfl⟩ := zd
      subst z
      clear h0 hd
      rw [if_pos (by rfl)]
      go_simp
      exact unhide hK _ _ ⟨true, true, true, true, true, true, true, true, true, true, true, true, true, sv, rfl, rfl, zu kB, zu kx11, (fun _ => ⟨rfl, rfl, rfl, rfl, rfl, rfl, rfl, rfl, rfl, rfl, rfl, rfl⟩)⟩
  case hend =>
    intro Lb A W hI
    obtain ⟨u0, u1, u2, u3, u4, hI⟩ := hI
    obtain ⟨u5, u6, u7, u8, u9, hI⟩ := hI
    obtain ⟨u10, u11, u12, sv, hI⟩ := hI
    obtain ⟨hLb, hI⟩ := hI
    obtain ⟨hA, hI⟩ := hI
    obtain ⟨kB, hI⟩ := hI
    obtain ⟨kx11, hI⟩ := hI
    have kF := hI
    clear hI
    subst hLb
    subst hA
    intro hL
    have hl : u0 = true ∧ u1 = true ∧ u2 = true ∧ u3 = true ∧ u4 = true ∧ u5 = true ∧ u6 = true ∧ u7 = true ∧ u8 = true ∧ u9 = true ∧ u10 = true ∧ u11 = true ∧ u12 = true := by
      have h2 := congrArg Array.toList hL
      simpa [List.replicate] using h2
    obtain ⟨rfl, rfl, rfl, rfl, rfl, rfl, rfl, rfl, rfl, rfl, rfl, rfl, rfl⟩ := hl
    exact unhide HQ  sv W kB (kx11 rfl)

end Go.Proofs.Ytimkinpbimangaa

namespace Go.Proofs.Ytimkinpbimangaa
open Go.ChangeShapes Go.WideShapes Go.ChangeAt Go.RowKit
set_option linter.unusedVariables false
set_option linter.unusedSimpArgs false
theorem blk_at (W : World) (o : Obj) {n : Nat} (h : n = W.heap.size) : (W.alloc o).heap[n]? = some o := by rw [h]; exact blk_new W o
theorem le_bel {w W W2 : World} (h : Below w.heap.size w W) (h2 : Below W.heap.size W W2) : w.heap.size ≤ W2.heap.size := Nat.le_trans h.size h2.size

set_option maxRecDepth 100000 in
set_option maxHeartbeats 2000000 in
theorem alongM_eq_ab (a1 a2 b1 b2 c1 c2 d1 d2 : Int) (w : World)
    (L1 : Hid (∀ W, Calls Try.prog 91 #[.agg #[.int .i64 b1, .int .i64 b2], .agg #[.int .i64 a1, .int .i64 a2]] W fun e w' => e = .returned (.bool false) ∧ Below W.heap.size W w'))
    (L2 : Hid (∀ W, Calls Try.prog 91 #[.agg #[.int .i64 d1, .int .i64 d2], .agg #[.int .i64 c1, .int .i64 c2]] W fun e w' => e = .returned (.bool false) ∧ Below W.heap.size W w'))
    (L3 : Hid (∀ W, Calls Try.prog 91 #[.agg #[.int .i64 a1, .int .i64 a2], .agg #[.int .i64 c1, .int .i64 c2]] W fun e w' => e = .returned (.bool false) ∧ Below W.heap.size W w'))
    (L4 : Hid (∀ W, Calls Try.prog 91 #[.agg #[.int .i64 d1, .int .i64 d2], .agg #[.int .i64 b1, .int .i64 b2]] W fun e w' => e = .returned (.bool false) ∧ Below W.heap.size W w'))
    (q1 : (a1 == b1) = true) (q2 : (a2 == b2) = true)
    (L5 : Hid (∀ W, Calls Try.prog 79 #[.agg #[.int .i64 a1, .int .i64 a2], .agg #[.int .i64 b1, .int .i64 b2], .agg #[.int .i64 a1, .int .i64 a2]] W fun e w' => e = .returned (.bool true) ∧ Below W.heap.size W w')) (L6 : Hid (∀ W, Calls Try.prog 79 #[.agg #[.int .i64 c1, .int .i64 c2], .agg #[.int .i64 d1, .int .i64 d2], .agg #[.int .i64 a1, .int .i64 a2]] W fun e w' => e = .returned (.bool true) ∧ Below W.heap.size W w')) :
    Calls Try.prog 77 #[.agg #[.int .i64 a1, .int .i64 a2], .agg #[.int .i64 b1, .int .i64 b2], .agg #[.int .i64 c1, .int .i64 c2], .agg #[.int .i64 d1, .int .i64 d2]] w fun e w' => (∃ k, e = .returned (.slice (some ⟨k, 0, none⟩) 1 1) ∧ w.heap.size ≤ k ∧ w'.heap[k]? = some (.cells #[.int .i64 a1, .int .i64 a2, .int .i64 1] 93 (0, 0))) ∧ Below w.heap.size w w' := by
  go_enter Try.func77, Try.ntmps77
  go_wp2_with fail
  refine (unhide L1 _).mono ?_
  rintro e W1 ⟨rfl, hb⟩
  have k1_0 := keep1 hb (b := w.heap.size) (o := 0) (v := .int .i64 a1) (by simp (maxDischargeDepth := 12) [go_sem, le1, lt1, *])
  have k1_1 := keep1 hb (b := w.heap.size) (o := 1) (v := .int .i64 a2) (by simp (maxDischargeDepth := 12) [go_sem, le1, lt1, *])
  have k1_2 := keep1 hb (b := w.heap.size + 1) (o := 0) (v := .int .i64 b1) (by simp (maxDischargeDepth := 12) [go_sem, le1, lt1, *])
  have k1_3 := keep1 hb (b := w.heap.size + 1) (o := 1) (v := .int .i64 b2) (by simp (maxDischargeDepth := 12) [go_sem, le1, lt1, *])
  have k1_4 := keep1 hb (b := w.heap.size + 1 + 1) (o := 0) (v := .int .i64 c1) (by simp (maxDischargeDepth := 12) [go_sem, le1, lt1, *])
  have k1_5 := keep1 hb (b := w.heap.size + 1 + 1) (o := 1) (v := .int .i64 c2) (by simp (maxDischargeDepth := 12) [go_sem, le1, lt1, *])
  have k1_6 := keep1 hb (b := w.heap.size + 1 + 1 + 1) (o := 0) (v := .int .i64 d1) (by simp (maxDischargeDepth := 12) [go_sem, le1, lt1, *])
  have k1_7 := keep1 hb (b := w.heap.size + 1 + 1 + 1) (o := 1) (v := .int .i64 d2) (by simp (maxDischargeDepth := 12) [go_sem, le1, lt1, *])
  have HB1 := hide hb
  clear hb
  have lak1_0 := cell_lt k1_0
  have lbk1_0 := Nat.le_of_lt lak1_0
  have lck1_0 := lt1 (k := 1) lak1_0
  have ldk1_0 := lt1 (k := 1) lck1_0
  have lek1_0 := lt1 (k := 1) ldk1_0
  have lnk1_0 := Nat.ne_of_lt lak1_0
  have lmk1_0 := (Nat.ne_of_lt lak1_0).symm
  have lak1_2 := cell_lt k1_2
  have lbk1_2 := Nat.le_of_lt lak1_2
  have lck1_2 := lt1 (k := 1) lak1_2
  have ldk1_2 := lt1 (k := 1) lck1_2
  have lek1_2 := lt1 (k := 1) ldk1_2
  have lnk1_2 := Nat.ne_of_lt lak1_2
  have lmk1_2 := (Nat.ne_of_lt lak1_2).symm
  have lak1_4 := cell_lt k1_4
  have lbk1_4 := Nat.le_of_lt lak1_4
  have lck1_4 := lt1 (k := 1) lak1_4
  have ldk1_4 := lt1 (k := 1) lck1_4
  have lek1_4 := lt1 (k := 1) ldk1_4
  have lnk1_4 := Nat.ne_of_lt lak1_4
  have lmk1_4 := (Nat.ne_of_lt lak1_4).symm
  have lak1_6 := cell_lt k1_6
  have lbk1_6 := Nat.le_of_lt lak1_6
  have lck1_6 := lt1 (k := 1) lak1_6
  have ldk1_6 := lt1 (k := 1) lck1_6
  have lek1_6 := lt1 (k := 1) ldk1_6
  have lnk1_6 := Nat.ne_of_lt lak1_6
  have lmk1_6 := (Nat.ne_of_lt lak1_6).symm
  go_wp2_with fail
  refine (unhide L2 _).mono ?_
  rintro e W2 ⟨rfl, hb⟩
  have k2_0 := keep1 hb (b := w.heap.size) (o := 0) (v := .int .i64 a1) (by simp (maxDischargeDepth := 12) [go_sem, le1, lt1, *])
  have k2_1 := keep1 hb (b := w.heap.size) (o := 1) (v := .int .i64 a2) (by simp (maxDischargeDepth := 12) [go_sem, le1, lt1, *])
  have k2_2 := keep1 hb (b := w.heap.size + 1) (o := 0) (v := .int .i64 b1) (by simp (maxDischargeDepth := 12) [go_sem, le1, lt1, *])
  have k2_3 := keep1 hb (b := w.heap.size + 1) (o := 1) (v := .int .i64 b2) (by simp (maxDischargeDepth := 12) [go_sem, le1, lt1, *])
  have k2_4 := keep1 hb (b := w.heap.size + 1 + 1) (o := 0) (v := .int .i64 c1) (by simp (maxDischargeDepth := 12) [go_sem, le1, lt1, *])
  have k2_5 := keep1 hb (b := w.heap.size + 1 + 1) (o := 1) (v := .int .i64 c2) (by simp (maxDischargeDepth := 12) [go_sem, le1, lt1, *])
  have k2_6 := keep1 hb (b := w.heap.size + 1 + 1 + 1) (o := 0) (v := .int .i64 d1) (by simp (maxDischargeDepth := 12) [go_sem, le1, lt1, *])
  have k2_7 := keep1 hb (b := w.heap.size + 1 + 1 + 1) (o := 1) (v := .int .i64 d2) (by simp (maxDischargeDepth := 12) [go_sem, le1, lt1, *])
  have HB2 := hide hb
  clear hb
  clear k1_0 k1_1 k1_2 k1_3 k1_4 k1_5 k1_6 k1_7 lak1_0 lbk1_0 lck1_0 ldk1_0 lek1_0 lak1_2 lbk1_2 lck1_2 ldk1_2 lek1_2 lak1_4 lbk1_4 lck1_4 ldk1_4 lek1_4 lak1_6 lbk1_6 lck1_6 ldk1_6 lek1_6
  have lak2_0 := cell_lt k2_0
  have lbk2_0 := Nat.le_of_lt lak2_0
  have lck2_0 := lt1 (k := 1) lak2_0
  have ldk2_0 := lt1 (k := 1) lck2_0
  have lek2_0 := lt1 (k := 1) ldk2_0
  have lnk2_0 := Nat.ne_of_lt lak2_0
  have lmk2_0 := (Nat.ne_of_lt lak2_0).symm
  have lak2_2 := cell_lt k2_2
  have lbk2_2 := Nat.le_of_lt lak2_2
  have lck2_2 := lt1 (k := 1) lak2_2
  have ldk2_2 := lt1 (k := 1) lck2_2
  have lek2_2 := lt1 (k := 1) ldk2_2
  have lnk2_2 := Nat.ne_of_lt lak2_2
  have lmk2_2 := (Nat.ne_of_lt lak2_2).symm
  have lak2_4 := cell_lt k2_4
  have lbk2_4 := Nat.le_of_lt lak2_4
  have lck2_4 := lt1 (k := 1) lak2_4
  have ldk2_4 := lt1 (k := 1) lck2_4
  have lek2_4 := lt1 (k := 1) ldk2_4
  have lnk2_4 := Nat.ne_of_lt lak2_4
  have lmk2_4 := (Nat.ne_of_lt lak2_4).symm
  have lak2_6 := cell_lt k2_6
  have lbk2_6 := Nat.le_of_lt lak2_6
  have lck2_6 := lt1 (k := 1) lak2_6
  have ldk2_6 := lt1 (k := 1) lck2_6
  have lek2_6 := lt1 (k := 1) ldk2_6
  have lnk2_6 := Nat.ne_of_lt lak2_6
  have lmk2_6 := (Nat.ne_of_lt lak2_6).symm
  go_wp2_with fail
  refine (unhide L3 _).mono ?_
  rintro e W3 ⟨rfl, hb⟩
  have k3_0 := keep1 hb (b := w.heap.size) (o := 0) (v := .int .i64 a1) (by simp (maxDischargeDepth := 12) [go_sem, le1, lt1, *])
  have k3_1 := keep1 hb (b := w.heap.size) (o := 1) (v := .int .i64 a2) (by simp (maxDischargeDepth := 12) [go_sem, le1, lt1, *])
  have k3_2 := keep1 hb (b := w.heap.size + 1) (o := 0) (v := .int .i64 b1) (by simp (maxDischargeDepth := 12) [go_sem, le1, lt1, *])
  have k3_3 := keep1 hb (b := w.heap.size + 1) (o := 1) (v := .int .i64 b2) (by simp (maxDischargeDepth := 12) [go_sem, le1, lt1, *])
  have k3_4 := keep1 hb (b := w.heap.size + 1 + 1) (o := 0) (v := .int .i64 c1) (by simp (maxDischargeDepth := 12) [go_sem, le1, lt1, *])
  have k3_5 := keep1 hb (b := w.heap.size + 1 + 1) (o := 1) (v := .int .i64 c2) (by simp (maxDischargeDepth := 12) [go_sem, le1, lt1, *])
  have k3_6 := keep1 hb (b := w.heap.size + 1 + 1 + 1) (o := 0) (v := .int .i64 d1) (by simp (maxDischargeDepth := 12) [go_sem, le1, lt1, *])
  have k3_7 := keep1 hb (b := w.heap.size + 1 + 1 + 1) (o := 1) (v := .int .i64 d2) (by simp (maxDischargeDepth := 12) [go_sem, le1, lt1, *])
  have k3_8 := keep1 hb (b := W2.heap.size) (o := 0) (v := .int .i64 a1) (by simp (maxDischargeDepth := 12) [go_sem, le1, lt1, *])
  have k3_9 := keep1 hb (b := W2.heap.size) (o := 1) (v := .int .i64 a2) (by simp (maxDischargeDepth := 12) [go_sem, le1, lt1, *])
  have z3 := fun o => keepz hb (b := W2.heap.size) (o := o) (by simp) (by simp (maxDischargeDepth := 12) [go_sem, le1, lt1, *])
  have HB3 := hide hb
  clear hb
  clear k2_0 k2_1 k2_2 k2_3 k2_4 k2_5 k2_6 k2_7 lak2_0 lbk2_0 lck2_0 ldk2_0 lek2_0 lak2_2 lbk2_2 lck2_2 ldk2_2 lek2_2 lak2_4 lbk2_4 lck2_4 ldk2_4 lek2_4 lak2_6 lbk2_6 lck2_6 ldk2_6 lek2_6
  have lak3_0 := cell_lt k3_0
  have lbk3_0 := Nat.le_of_lt lak3_0
  have lck3_0 := lt1 (k := 1) lak3_0
  have ldk3_0 := lt1 (k := 1) lck3_0
  have lek3_0 := lt1 (k := 1) ldk3_0
  have lnk3_0 := Nat.ne_of_lt lak3_0
  have lmk3_0 := (Nat.ne_of_lt lak3_0).symm
  have lak3_2 := cell_lt k3_2
  have lbk3_2 := Nat.le_of_lt lak3_2
  have lck3_2 := lt1 (k := 1) lak3_2
  have ldk3_2 := lt1 (k := 1) lck3_2
  have lek3_2 := lt1 (k := 1) ldk3_2
  have lnk3_2 := Nat.ne_of_lt lak3_2
  have lmk3_2 := (Nat.ne_of_lt lak3_2).symm
  have lak3_4 := cell_lt k3_4
  have lbk3_4 := Nat.le_of_lt lak3_4
  have lck3_4 := lt1 (k := 1) lak3_4
  have ldk3_4 := lt1 (k := 1) lck3_4
  have lek3_4 := lt1 (k := 1) ldk3_4
  have lnk3_4 := Nat.ne_of_lt lak3_4
  have lmk3_4 := (Nat.ne_of_lt lak3_4).symm
  have lak3_6 := cell_lt k3_6
  have lbk3_6 := Nat.le_of_lt lak3_6
  have lck3_6 := lt1 (k := 1) lak3_6
  have ldk3_6 := lt1 (k := 1) lck3_6
  have lek3_6 := lt1 (k := 1) ldk3_6
  have lnk3_6 := Nat.ne_of_lt lak3_6
  have lmk3_6 := (Nat.ne_of_lt lak3_6).symm
  have lak3_8 := cell_lt k3_8
  have lbk3_8 := Nat.le_of_lt lak3_8
  have lck3_8 := lt1 (k := 1) lak3_8
  have ldk3_8 := lt1 (k := 1) lck3_8
  have lek3_8 := lt1 (k := 1) ldk3_8
  have lnk3_8 := Nat.ne_of_lt lak3_8
  have lmk3_8 := (Nat.ne_of_lt lak3_8).symm
  go_wp2_with fail
  refine (unhide L4 _).mono ?_
  rintro e W4 ⟨rfl, hb⟩
  have k4_0 := keep1 hb (b := w.heap.size) (o := 0) (v := .int .i64 a1) (by simp (maxDischargeDepth := 12) [go_sem, le1, lt1, *])
  have k4_1 := keep1 hb (b := w.heap.size) (o := 1) (v := .int .i64 a2) (by simp (maxDischargeDepth := 12) [go_sem, le1, lt1, *])
  have k4_2 := keep1 hb (b := w.heap.size + 1) (o := 0) (v := .int .i64 b1) (by simp (maxDischargeDepth := 12) [go_sem, le1, lt1, *])
  have k4_3 := keep1 hb (b := w.heap.size + 1) (o := 1) (v := .int .i64 b2) (by simp (maxDischargeDepth := 12) [go_sem, le1, lt1, *])
  have k4_4 := keep1 hb (b := w.heap.size + 1 + 1) (o := 0) (v := .int .i64 c1) (by simp (maxDischargeDepth := 12) [go_sem, le1, lt1, *])
  have k4_5 := keep1 hb (b := w.heap.size + 1 + 1) (o := 1) (v := .int .i64 c2) (by simp (maxDischargeDepth := 12) [go_sem, le1, lt1, *])
  have k4_6 := keep1 hb (b := w.heap.size + 1 + 1 + 1) (o := 0) (v := .int .i64 d1) (by simp (maxDischargeDepth := 12) [go_sem, le1, lt1, *])
  have k4_7 := keep1 hb (b := w.heap.size + 1 + 1 + 1) (o := 1) (v := .int .i64 d2) (by simp (maxDischargeDepth := 12) [go_sem, le1, lt1, *])
  have k4_8 := keep1 hb (b := W2.heap.size) (o := 0) (v := .int .i64 a1) (by simp (maxDischargeDepth := 12) [go_sem, le1, lt1, *])
  have k4_9 := keep1 hb (b := W2.heap.size) (o := 1) (v := .int .i64 a2) (by simp (maxDischargeDepth := 12) [go_sem, le1, lt1, *])
  have k4_10 := keep1 hb (b := W3.heap.size) (o := 0) (v := .int .i64 b1) (by simp (maxDischargeDepth := 12) [go_sem, le1, lt1, *])
  have k4_11 := keep1 hb (b := W3.heap.size) (o := 1) (v := .int .i64 b2) (by simp (maxDischargeDepth := 12) [go_sem, le1, lt1, *])
  have z4 := fun o => keepz hb (b := W3.heap.size) (o := o) (by simp) (by simp (maxDischargeDepth := 12) [go_sem, le1, lt1, *])
  have HB4 := hide hb
  clear hb
  clear k3_0 k3_1 k3_2 k3_3 k3_4 k3_5 k3_6 k3_7 k3_8 k3_9 lak3_0 lbk3_0 lck3_0 ldk3_0 lek3_0 lak3_2 lbk3_2 lck3_2 ldk3_2 lek3_2 lak3_4 lbk3_4 lck3_4 ldk3_4 lek3_4 lak3_6 lbk3_6 lck3_6 ldk3_6 lek3_6 lak3_8 lbk3_8 lck3_8 ldk3_8 lek3_8
  have lak4_0 := cell_lt k4_0
  have lbk4_0 := Nat.le_of_lt lak4_0
  have lck4_0 := lt1 (k := 1) lak4_0
  have ldk4_0 := lt1 (k := 1) lck4_0
  have lek4_0 := lt1 (k := 1) ldk4_0
  have lnk4_0 := Nat.ne_of_lt lak4_0
  have lmk4_0 := (Nat.ne_of_lt lak4_0).symm
  have lak4_2 := cell_lt k4_2
  have lbk4_2 := Nat.le_of_lt lak4_2
  have lck4_2 := lt1 (k := 1) lak4_2
  have ldk4_2 := lt1 (k := 1) lck4_2
  have lek4_2 := lt1 (k := 1) ldk4_2
  have lnk4_2 := Nat.ne_of_lt lak4_2
  have lmk4_2 := (Nat.ne_of_lt lak4_2).symm
  have lak4_4 := cell_lt k4_4
  have lbk4_4 := Nat.le_of_lt lak4_4
  have lck4_4 := lt1 (k := 1) lak4_4
  have ldk4_4 := lt1 (k := 1) lck4_4
  have lek4_4 := lt1 (k := 1) ldk4_4
  have lnk4_4 := Nat.ne_of_lt lak4_4
  have lmk4_4 := (Nat.ne_of_lt lak4_4).symm
  have lak4_6 := cell_lt k4_6
  have lbk4_6 := Nat.le_of_lt lak4_6
  have lck4_6 := lt1 (k := 1) lak4_6
  have ldk4_6 := lt1 (k := 1) lck4_6
  have lek4_6 := lt1 (k := 1) ldk4_6
  have lnk4_6 := Nat.ne_of_lt lak4_6
  have lmk4_6 := (Nat.ne_of_lt lak4_6).symm
  have lak4_8 := cell_lt k4_8
  have lbk4_8 := Nat.le_of_lt lak4_8
  have lck4_8 := lt1 (k := 1) lak4_8
  have ldk4_8 := lt1 (k := 1) lck4_8
  have lek4_8 := lt1 (k := 1) ldk4_8
  have lnk4_8 := Nat.ne_of_lt lak4_8
  have lmk4_8 := (Nat.ne_of_lt lak4_8).symm
  have lak4_10 := cell_lt k4_10
  have lbk4_10 := Nat.le_of_lt lak4_10
  have lck4_10 := lt1 (k := 1) lak4_10
  have ldk4_10 := lt1 (k := 1) lck4_10
  have lek4_10 := lt1 (k := 1) ldk4_10
  have lnk4_10 := Nat.ne_of_lt lak4_10
  have lmk4_10 := (Nat.ne_of_lt lak4_10).symm
  have E4 : Hid (Below w.heap.size w W4) := by
    refine hide (bc ?_ (unhide HB4))
    refine ba ?_ _
    refine bc ?_ (unhide HB3)
    refine ba ?_ _
    refine bc ?_ (unhide HB2)
    refine bc ?_ (unhide HB1)
    exact ba (ba (ba (ba (Below.refl _ _) _) _) _) _
  have le4 : w.heap.size ≤ W3.heap.size := by
    have := (unhide HB1).size
    have := (unhide HB2).size
    have := (unhide HB3).size
    simp at *
    omega
  clear HB1 HB2 HB3 HB4 z3
  go_wp2_with fail
  refine (unhide L5 _).mono ?_
  rintro e W5 ⟨rfl, hb⟩
  have k5_0 := keep1 hb (b := w.heap.size) (o := 0) (v := .int .i64 a1) (by simp (maxDischargeDepth := 12) [go_sem, le1, lt1, *])
  have k5_1 := keep1 hb (b := w.heap.size) (o := 1) (v := .int .i64 a2) (by simp (maxDischargeDepth := 12) [go_sem, le1, lt1, *])
  have k5_2 := keep1 hb (b := w.heap.size + 1) (o := 0) (v := .int .i64 b1) (by simp (maxDischargeDepth := 12) [go_sem, le1, lt1, *])
  have k5_3 := keep1 hb (b := w.heap.size + 1) (o := 1) (v := .int .i64 b2) (by simp (maxDischargeDepth := 12) [go_sem, le1, lt1, *])
  have k5_4 := keep1 hb (b := w.heap.size + 1 + 1) (o := 0) (v := .int .i64 c1) (by simp (maxDischargeDepth := 12) [go_sem, le1, lt1, *])
  have k5_5 := keep1 hb (b := w.heap.size + 1 + 1) (o := 1) (v := .int .i64 c2) (by simp (maxDischargeDepth := 12) [go_sem, le1, lt1, *])
  have k5_6 := keep1 hb (b := w.heap.size + 1 + 1 + 1) (o := 0) (v := .int .i64 d1) (by simp (maxDischargeDepth := 12) [go_sem, le1, lt1, *])
  have k5_7 := keep1 hb (b := w.heap.size + 1 + 1 + 1) (o := 1) (v := .int .i64 d2) (by simp (maxDischargeDepth := 12) [go_sem, le1, lt1, *])
  have k5_8 := keep1 hb (b := W2.heap.size) (o := 0) (v := .int .i64 a1) (by simp (maxDischargeDepth := 12) [go_sem, le1, lt1, *])
  have k5_9 := keep1 hb (b := W2.heap.size) (o := 1) (v := .int .i64 a2) (by simp (maxDischargeDepth := 12) [go_sem, le1, lt1, *])
  have HB5 := hide hb
  clear hb
  clear k4_0 k4_1 k4_2 k4_3 k4_4 k4_5 k4_6 k4_7 k4_8 k4_9 k4_10 k4_11 lak4_0 lbk4_0 lck4_0 ldk4_0 lek4_0 lak4_2 lbk4_2 lck4_2 ldk4_2 lek4_2 lak4_4 lbk4_4 lck4_4 ldk4_4 lek4_4 lak4_6 lbk4_6 lck4_6 ldk4_6 lek4_6 lak4_8 lbk4_8 lck4_8 ldk4_8 lek4_8 lak4_10 lbk4_10 lck4_10 ldk4_10 lek4_10
  have lak5_0 := cell_lt k5_0
  have lbk5_0 := Nat.le_of_lt lak5_0
  have lck5_0 := lt1 (k := 1) lak5_0
  have ldk5_0 := lt1 (k := 1) lck5_0
  have lek5_0 := lt1 (k := 1) ldk5_0
  have lnk5_0 := Nat.ne_of_lt lak5_0
  have lmk5_0 := (Nat.ne_of_lt lak5_0).symm
  have lak5_2 := cell_lt k5_2
  have lbk5_2 := Nat.le_of_lt lak5_2
  have lck5_2 := lt1 (k := 1) lak5_2
  have ldk5_2 := lt1 (k := 1) lck5_2
  have lek5_2 := lt1 (k := 1) ldk5_2
  have lnk5_2 := Nat.ne_of_lt lak5_2
  have lmk5_2 := (Nat.ne_of_lt lak5_2).symm
  have lak5_4 := cell_lt k5_4
  have lbk5_4 := Nat.le_of_lt lak5_4
  have lck5_4 := lt1 (k := 1) lak5_4
  have ldk5_4 := lt1 (k := 1) lck5_4
  have lek5_4 := lt1 (k := 1) ldk5_4
  have lnk5_4 := Nat.ne_of_lt lak5_4
  have lmk5_4 := (Nat.ne_of_lt lak5_4).symm
  have lak5_6 := cell_lt k5_6
  have lbk5_6 := Nat.le_of_lt lak5_6
  have lck5_6 := lt1 (k := 1) lak5_6
  have ldk5_6 := lt1 (k := 1) lck5_6
  have lek5_6 := lt1 (k := 1) ldk5_6
  have lnk5_6 := Nat.ne_of_lt lak5_6
  have lmk5_6 := (Nat.ne_of_lt lak5_6).symm
  have lak5_8 := cell_lt k5_8
  have lbk5_8 := Nat.le_of_lt lak5_8
  have lck5_8 := lt1 (k := 1) lak5_8
  have ldk5_8 := lt1 (k := 1) lck5_8
  have lek5_8 := lt1 (k := 1) ldk5_8
  have lnk5_8 := Nat.ne_of_lt lak5_8
  have lmk5_8 := (Nat.ne_of_lt lak5_8).symm
  go_wp2_with fail
  refine (unhide L6 _).mono ?_
  rintro e W6 ⟨rfl, hb⟩
  have k6_0 := keep1 hb (b := w.heap.size) (o := 0) (v := .int .i64 a1) (by simp (maxDischargeDepth := 12) [go_sem, le1, lt1, *])
  have k6_1 := keep1 hb (b := w.heap.size) (o := 1) (v := .int .i64 a2) (by simp (maxDischargeDepth := 12) [go_sem, le1, lt1, *])
  have k6_2 := keep1 hb (b := w.heap.size + 1) (o := 0) (v := .int .i64 b1) (by simp (maxDischargeDepth := 12) [go_sem, le1, lt1, *])
  have k6_3 := keep1 hb (b := w.heap.size + 1) (o := 1) (v := .int .i64 b2) (by simp (maxDischargeDepth := 12) [go_sem, le1, lt1, *])
  have k6_4 := keep1 hb (b := w.heap.size + 1 + 1) (o := 0) (v := .int .i64 c1) (by simp (maxDischargeDepth := 12) [go_sem, le1, lt1, *])
  have k6_5 := keep1 hb (b := w.heap.size + 1 + 1) (o := 1) (v := .int .i64 c2) (by simp (maxDischargeDepth := 12) [go_sem, le1, lt1, *])
  have k6_6 := keep1 hb (b := w.heap.size + 1 + 1 + 1) (o := 0) (v := .int .i64 d1) (by simp (maxDischargeDepth := 12) [go_sem, le1, lt1, *])
  have k6_7 := keep1 hb (b := w.heap.size + 1 + 1 + 1) (o := 1) (v := .int .i64 d2) (by simp (maxDischargeDepth := 12) [go_sem, le1, lt1, *])
  have k6_8 := keep1 hb (b := W2.heap.size) (o := 0) (v := .int .i64 a1) (by simp (maxDischargeDepth := 12) [go_sem, le1, lt1, *])
  have k6_9 := keep1 hb (b := W2.heap.size) (o := 1) (v := .int .i64 a2) (by simp (maxDischargeDepth := 12) [go_sem, le1, lt1, *])
  have HB6 := hide hb
  clear hb
  clear k5_0 k5_1 k5_2 k5_3 k5_4 k5_5 k5_6 k5_7 k5_8 k5_9 lak5_0 lbk5_0 lck5_0 ldk5_0 lek5_0 lak5_2 lbk5_2 lck5_2 ldk5_2 lek5_2 lak5_4 lbk5_4 lck5_4 ldk5_4 lek5_4 lak5_6 lbk5_6 lck5_6 ldk5_6 lek5_6 lak5_8 lbk5_8 lck5_8 ldk5_8 lek5_8
  have lak6_0 := cell_lt k6_0
  have lbk6_0 := Nat.le_of_lt lak6_0
  have lck6_0 := lt1 (k := 1) lak6_0
  have ldk6_0 := lt1 (k := 1) lck6_0
  have lek6_0 := lt1 (k := 1) ldk6_0
  have lnk6_0 := Nat.ne_of_lt lak6_0
  have lmk6_0 := (Nat.ne_of_lt lak6_0).symm
  have lak6_2 := cell_lt k6_2
  have lbk6_2 := Nat.le_of_lt lak6_2
  have lck6_2 := lt1 (k := 1) lak6_2
  have ldk6_2 := lt1 (k := 1) lck6_2
  have lek6_2 := lt1 (k := 1) ldk6_2
  have lnk6_2 := Nat.ne_of_lt lak6_2
  have lmk6_2 := (Nat.ne_of_lt lak6_2).symm
  have lak6_4 := cell_lt k6_4
  have lbk6_4 := Nat.le_of_lt lak6_4
  have lck6_4 := lt1 (k := 1) lak6_4
  have ldk6_4 := lt1 (k := 1) lck6_4
  have lek6_4 := lt1 (k := 1) ldk6_4
  have lnk6_4 := Nat.ne_of_lt lak6_4
  have lmk6_4 := (Nat.ne_of_lt lak6_4).symm
  have lak6_6 := cell_lt k6_6
  have lbk6_6 := Nat.le_of_lt lak6_6
  have lck6_6 := lt1 (k := 1) lak6_6
  have ldk6_6 := lt1 (k := 1) lck6_6
  have lek6_6 := lt1 (k := 1) ldk6_6
  have lnk6_6 := Nat.ne_of_lt lak6_6
  have lmk6_6 := (Nat.ne_of_lt lak6_6).symm
  have lak6_8 := cell_lt k6_8
  have lbk6_8 := Nat.le_of_lt lak6_8
  have lck6_8 := lt1 (k := 1) lak6_8
  have ldk6_8 := lt1 (k := 1) lck6_8
  have lek6_8 := lt1 (k := 1) ldk6_8
  have lnk6_8 := Nat.ne_of_lt lak6_8
  have lmk6_8 := (Nat.ne_of_lt lak6_8).symm
  have E6 := hide (bc (bc (unhide E4) (unhide HB5)) (unhide HB6))
  clear E4 HB5 HB6
  go_wp2_with fail
  refine (whole_ints _ _ _).mono ?_
  rintro e w' ⟨rfl, rfl⟩
  go_wp2_with fail
  go_ret
  exact ⟨⟨_, rfl, le1 (le1 (unhide E6).size), blk_at _ _ (by simp)⟩, ba (ba (ba (unhide E6) _) _) _⟩

set_option maxRecDepth 100000 in
set_option maxHeartbeats 2000000 in
theorem alongM_eq_ad (a1 a2 b1 b2 c1 c2 d1 d2 : Int) (w : World)
    (L1 : Hid (∀ W, Calls Try.prog 91 #[.agg #[.int .i64 b1, .int .i64 b2], .agg #[.int .i64 a1, .int .i64 a2]] W fun e w' => e = .returned (.bool false) ∧ Below W.heap.size W w'))
    (L2 : Hid (∀ W, Calls Try.prog 91 #[.agg #[.int .i64 d1, .int .i64 d2], .agg #[.int .i64 c1, .int .i64 c2]] W fun e w' => e = .returned (.bool false) ∧ Below W.heap.size W w'))
    (L3 : Hid (∀ W, Calls Try.prog 91 #[.agg #[.int .i64 a1, .int .i64 a2], .agg #[.int .i64 c1, .int .i64 c2]] W fun e w' => e = .returned (.bool false) ∧ Below W.heap.size W w'))
    (L4 : Hid (∀ W, Calls Try.prog 91 #[.agg #[.int .i64 d1, .int .i64 d2], .agg #[.int .i64 b1, .int .i64 b2]] W fun e w' => e = .returned (.bool true) ∧ Below W.heap.size W w'))
    (q1 : (a1 == d1) = true) (q2 : (a2 == d2) = true)
    (L5 : Hid (∀ W, Calls Try.prog 79 #[.agg #[.int .i64 a1, .int .i64 a2], .agg #[.int .i64 b1, .int .i64 b2], .agg #[.int .i64 a1, .int .i64 a2]] W fun e w' => e = .returned (.bool true) ∧ Below W.heap.size W w')) (L6 : Hid (∀ W, Calls Try.prog 79 #[.agg #[.int .i64 c1, .int .i64 c2], .agg #[.int .i64 d1, .int .i64 d2], .agg #[.int .i64 a1, .int .i64 a2]] W fun e w' => e = .returned (.bool true) ∧ Below W.heap.size W w')) :
    Calls Try.prog 77 #[.agg #[.int .i64 a1, .int .i64 a2], .agg #[.int .i64 b1, .int .i64 b2], .agg #[.int .i64 c1, .int .i64 c2], .agg #[.int .i64 d1, .int .i64 d2]] w fun e w' => (∃ k, e = .returned (.slice (some ⟨k, 0, none⟩) 1 1) ∧ w.heap.size ≤ k ∧ w'.heap[k]? = some (.cells #[.int .i64 a1, .int .i64 a2, .int .i64 1] 93 (0, 0))) ∧ Below w.heap.size w w' := by
  go_enter Try.func77, Try.ntmps77
  go_wp2_with fail
  refine (unhide L1 _).mono ?_
  rintro e W1 ⟨rfl, hb⟩
  have k1_0 := keep1 hb (b := w.heap.size) (o := 0) (v := .int .i64 a1) (by simp (maxDischargeDepth := 12) [go_sem, le1, lt1, *])
  have k1_1 := keep1 hb (b := w.heap.size) (o := 1) (v := .int .i64 a2) (by simp (maxDischargeDepth := 12) [go_sem, le1, lt1, *])
  have k1_2 := keep1 hb (b := w.heap.size + 1) (o := 0) (v := .int .i64 b1) (by simp (maxDischargeDepth := 12) [go_sem, le1, lt1, *])
  have k1_3 := keep1 hb (b := w.heap.size + 1) (o := 1) (v := .int .i64 b2) (by simp (maxDischargeDepth := 12) [go_sem, le1, lt1, *])
  have k1_4 := keep1 hb (b := w.heap.size + 1 + 1) (o := 0) (v := .int .i64 c1) (by simp (maxDischargeDepth := 12) [go_sem, le1, lt1, *])
  have k1_5 := keep1 hb (b := w.heap.size + 1 + 1) (o := 1) (v := .int .i64 c2) (by simp (maxDischargeDepth := 12) [go_sem, le1, lt1, *])
  have k1_6 := keep1 hb (b := w.heap.size + 1 + 1 + 1) (o := 0) (v := .int .i64 d1) (by simp (maxDischargeDepth := 12) [go_sem, le1, lt1, *])
  have k1_7 := keep1 hb (b := w.heap.size + 1 + 1 + 1) (o := 1) (v := .int .i64 d2) (by simp (maxDischargeDepth := 12) [go_sem, le1, lt1, *])
  have HB1 := hide hb
  clear hb
  have lak1_0 := cell_lt k1_0
  have lbk1_0 := Nat.le_of_lt lak1_0
  have lck1_0 := lt1 (k := 1) lak1_0
  have ldk1_0 := lt1 (k := 1) lck1_0
  have lek1_0 := lt1 (k := 1) ldk1_0
  have lnk1_0 := Nat.ne_of_lt lak1_0
  have lmk1_0 := (Nat.ne_of_lt lak1_0).symm
  have lak1_2 := cell_lt k1_2
  have lbk1_2 := Nat.le_of_lt lak1_2
  have lck1_2 := lt1 (k := 1) lak1_2
  have ldk1_2 := lt1 (k := 1) lck1_2
  have lek1_2 := lt1 (k := 1) ldk1_2
  have lnk1_2 := Nat.ne_of_lt lak1_2
  have lmk1_2 := (Nat.ne_of_lt lak1_2).symm
  have lak1_4 := cell_lt k1_4
  have lbk1_4 := Nat.le_of_lt lak1_4
  have lck1_4 := lt1 (k := 1) lak1_4
  have ldk1_4 := lt1 (k := 1) lck1_4
  have lek1_4 := lt1 (k := 1) ldk1_4
  have lnk1_4 := Nat.ne_of_lt lak1_4
  have lmk1_4 := (Nat.ne_of_lt lak1_4).symm
  have lak1_6 := cell_lt k1_6
  have lbk1_6 := Nat.le_of_lt lak1_6
  have lck1_6 := lt1 (k := 1) lak1_6
  have ldk1_6 := lt1 (k := 1) lck1_6
  have lek1_6 := lt1 (k := 1) ldk1_6
  have lnk1_6 := Nat.ne_of_lt lak1_6
  have lmk1_6 := (Nat.ne_of_lt lak1_6).symm
  go_wp2_with fail
  refine (unhide L2 _).mono ?_
  rintro e W2 ⟨rfl, hb⟩
  have k2_0 := keep1 hb (b := w.heap.size) (o := 0) (v := .int .i64 a1) (by simp (maxDischargeDepth := 12) [go_sem, le1, lt1, *])
  have k2_1 := keep1 hb (b := w.heap.size) (o := 1) (v := .int .i64 a2) (by simp (maxDischargeDepth := 12) [go_sem, le1, lt1, *])
  have k2_2 := keep1 hb (b := w.heap.size + 1) (o := 0) (v := .int .i64 b1) (by simp (maxDischargeDepth := 12) [go_sem, le1, lt1, *])
  have k2_3 := keep1 hb (b := w.heap.size + 1) (o := 1) (v := .int .i64 b2) (by simp (maxDischargeDepth := 12) [go_sem, le1, lt1, *])
  have k2_4 := keep1 hb (b := w.heap.size + 1 + 1) (o := 0) (v := .int .i64 c1) (by simp (maxDischargeDepth := 12) [go_sem, le1, lt1, *])
  have k2_5 := keep1 hb (b := w.heap.size + 1 + 1) (o := 1) (v := .int .i64 c2) (by simp (maxDischargeDepth := 12) [go_sem, le1, lt1, *])
  have k2_6 := keep1 hb (b := w.heap.size + 1 + 1 + 1) (o := 0) (v := .int .i64 d1) (by simp (maxDischargeDepth := 12) [go_sem, le1, lt1, *])
  have k2_7 := keep1 hb (b := w.heap.size + 1 + 1 + 1) (o := 1) (v := .int .i64 d2) (by simp (maxDischargeDepth := 12) [go_sem, le1, lt1, *])
  have HB2 := hide hb
  clear hb
  clear k1_0 k1_1 k1_2 k1_3 k1_4 k1_5 k1_6 k1_7 lak1_0 lbk1_0 lck1_0 ldk1_0 lek1_0 lak1_2 lbk1_2 lck1_2 ldk1_2 lek1_2 lak1_4 lbk1_4 lck1_4 ldk1_4 lek1_4 lak1_6 lbk1_6 lck1_6 ldk1_6 lek1_6
  have lak2_0 := cell_lt k2_0
  have lbk2_0 := Nat.le_of_lt lak2_0
  have lck2_0 := lt1 (k := 1) lak2_0
  have ldk2_0 := lt1 (k := 1) lck2_0
  have lek2_0 := lt1 (k := 1) ldk2_0
  have lnk2_0 := Nat.ne_of_lt lak2_0
  have lmk2_0 := (Nat.ne_of_lt lak2_0).symm
  have lak2_2 := cell_lt k2_2
  have lbk2_2 := Nat.le_of_lt lak2_2
  have lck2_2 := lt1 (k := 1) lak2_2
  have ldk2_2 := lt1 (k := 1) lck2_2
  have lek2_2 := lt1 (k := 1) ldk2_2
  have lnk2_2 := Nat.ne_of_lt lak2_2
  have lmk2_2 := (Nat.ne_of_lt lak2_2).symm
  have lak2_4 := cell_lt k2_4
  have lbk2_4 := Nat.le_of_lt lak2_4
  have lck2_4 := lt1 (k := 1) lak2_4
  have ldk2_4 := lt1 (k := 1) lck2_4
  have lek2_4 := lt1 (k := 1) ldk2_4
  have lnk2_4 := Nat.ne_of_lt lak2_4
  have lmk2_4 := (Nat.ne_of_lt lak2_4).symm
  have lak2_6 := cell_lt k2_6
  have lbk2_6 := Nat.le_of_lt lak2_6
  have lck2_6 := lt1 (k := 1) lak2_6
  have ldk2_6 := lt1 (k := 1) lck2_6
  have lek2_6 := lt1 (k := 1) ldk2_6
  have lnk2_6 := Nat.ne_of_lt lak2_6
  have lmk2_6 := (Nat.ne_of_lt lak2_6).symm
  go_wp2_with fail
  refine (unhide L3 _).mono ?_
  rintro e W3 ⟨rfl, hb⟩
  have k3_0 := keep1 hb (b := w.heap.size) (o := 0) (v := .int .i64 a1) (by simp (maxDischargeDepth := 12) [go_sem, le1, lt1, *])
  have k3_1 := keep1 hb (b := w.heap.size) (o := 1) (v := .int .i64 a2) (by simp (maxDischargeDepth := 12) [go_sem, le1, lt1, *])
  have k3_2 := keep1 hb (b := w.heap.size + 1) (o := 0) (v := .int .i64 b1) (by simp (maxDischargeDepth := 12) [go_sem, le1, lt1, *])
  have k3_3 := keep1 hb (b := w.heap.size + 1) (o := 1) (v := .int .i64 b2) (by simp (maxDischargeDepth := 12) [go_sem, le1, lt1, *])
  have k3_4 := keep1 hb (b := w.heap.size + 1 + 1) (o := 0) (v := .int .i64 c1) (by simp (maxDischargeDepth := 12) [go_sem, le1, lt1, *])
  have k3_5 := keep1 hb (b := w.heap.size + 1 + 1) (o := 1) (v := .int .i64 c2) (by simp (maxDischargeDepth := 12) [go_sem, le1, lt1, *])
  have k3_6 := keep1 hb (b := w.heap.size + 1 + 1 + 1) (o := 0) (v := .int .i64 d1) (by simp (maxDischargeDepth := 12) [go_sem, le1, lt1, *])
  have k3_7 := keep1 hb (b := w.heap.size + 1 + 1 + 1) (o := 1) (v := .int .i64 d2) (by simp (maxDischargeDepth := 12) [go_sem, le1, lt1, *])
  have k3_8 := keep1 hb (b := W2.heap.size) (o := 0) (v := .int .i64 a1) (by simp (maxDischargeDepth := 12) [go_sem, le1, lt1, *])
  have k3_9 := keep1 hb (b := W2.heap.size) (o := 1) (v := .int .i64 a2) (by simp (maxDischargeDepth := 12) [go_sem, le1, lt1, *])
  have z3 := fun o => keepz hb (b := W2.heap.size) (o := o) (by simp) (by simp (maxDischargeDepth := 12) [go_sem, le1, lt1, *])
  have HB3 := hide hb
  clear hb
  clear k2_0 k2_1 k2_2 k2_3 k2_4 k2_5 k2_6 k2_7 lak2_0 lbk2_0 lck2_0 ldk2_0 lek2_0 lak2_2 lbk2_2 lck2_2 ldk2_2 lek2_2 lak2_4 lbk2_4 lck2_4 ldk2_4 lek2_4 lak2_6 lbk2_6 lck2_6 ldk2_6 lek2_6
  have lak3_0 := cell_lt k3_0
  have lbk3_0 := Nat.le_of_lt lak3_0
  have lck3_0 := lt1 (k := 1) lak3_0
  have ldk3_0 := lt1 (k := 1) lck3_0
  have lek3_0 := lt1 (k := 1) ldk3_0
  have lnk3_0 := Nat.ne_of_lt lak3_0
  have lmk3_0 := (Nat.ne_of_lt lak3_0).symm
  have lak3_2 := cell_lt k3_2
  have lbk3_2 := Nat.le_of_lt lak3_2
  have lck3_2 := lt1 (k := 1) lak3_2
  have ldk3_2 := lt1 (k := 1) lck3_2
  have lek3_2 := lt1 (k := 1) ldk3_2
  have lnk3_2 := Nat.ne_of_lt lak3_2
  have lmk3_2 := (Nat.ne_of_lt lak3_2).symm
  have lak3_4 := cell_lt k3_4
  have lbk3_4 := Nat.le_of_lt lak3_4
  have lck3_4 := lt1 (k := 1) lak3_4
  have ldk3_4 := lt1 (k := 1) lck3_4
  have lek3_4 := lt1 (k := 1) ldk3_4
  have lnk3_4 := Nat.ne_of_lt lak3_4
  have lmk3_4 := (Nat.ne_of_lt lak3_4).symm
  have lak3_6 := cell_lt k3_6
  have lbk3_6 := Nat.le_of_lt lak3_6
  have lck3_6 := lt1 (k := 1) lak3_6
  have ldk3_6 := lt1 (k := 1) lck3_6
  have lek3_6 := lt1 (k := 1) ldk3_6
  have lnk3_6 := Nat.ne_of_lt lak3_6
  have lmk3_6 := (Nat.ne_of_lt lak3_6).symm
  have lak3_8 := cell_lt k3_8
  have lbk3_8 := Nat.le_of_lt lak3_8
  have lck3_8 := lt1 (k := 1) lak3_8
  have ldk3_8 := lt1 (k := 1) lck3_8
  have lek3_8 := lt1 (k := 1) ldk3_8
  have lnk3_8 := Nat.ne_of_lt lak3_8
  have lmk3_8 := (Nat.ne_of_lt lak3_8).symm
  go_wp2_with fail
  refine (unhide L4 _).mono ?_
  rintro e W4 ⟨rfl, hb⟩
  have k4_0 := keep1 hb (b := w.heap.size) (o := 0) (v := .int .i64 a1) (by simp (maxDischargeDepth := 12) [go_sem, le1, lt1, *])
  have k4_1 := keep1 hb (b := w.heap.size) (o := 1) (v := .int .i64 a2) (by simp (maxDischargeDepth := 12) [go_sem, le1, lt1, *])
  have k4_2 := keep1 hb (b := w.heap.size + 1) (o := 0) (v := .int .i64 b1) (by simp (maxDischargeDepth := 12) [go_sem, le1, lt1, *])
  have k4_3 := keep1 hb (b := w.heap.size + 1) (o := 1) (v := .int .i64 b2) (by simp (maxDischargeDepth := 12) [go_sem, le1, lt1, *])
  have k4_4 := keep1 hb (b := w.heap.size + 1 + 1) (o := 0) (v := .int .i64 c1) (by simp (maxDischargeDepth := 12) [go_sem, le1, lt1, *])
  have k4_5 := keep1 hb (b := w.heap.size + 1 + 1) (o := 1) (v := .int .i64 c2) (by simp (maxDischargeDepth := 12) [go_sem, le1, lt1, *])
  have k4_6 := keep1 hb (b := w.heap.size + 1 + 1 + 1) (o := 0) (v := .int .i64 d1) (by simp (maxDischargeDepth := 12) [go_sem, le1, lt1, *])
  have k4_7 := keep1 hb (b := w.heap.size + 1 + 1 + 1) (o := 1) (v := .int .i64 d2) (by simp (maxDischargeDepth := 12) [go_sem, le1, lt1, *])
  have k4_8 := keep1 hb (b := W2.heap.size) (o := 0) (v := .int .i64 a1) (by simp (maxDischargeDepth := 12) [go_sem, le1, lt1, *])
  have k4_9 := keep1 hb (b := W2.heap.size) (o := 1) (v := .int .i64 a2) (by simp (maxDischargeDepth := 12) [go_sem, le1, lt1, *])
  have k4_10 := keep1 hb (b := W3.heap.size) (o := 0) (v := .int .i64 b1) (by simp (maxDischargeDepth := 12) [go_sem, le1, lt1, *])
  have k4_11 := keep1 hb (b := W3.heap.size) (o := 1) (v := .int .i64 b2) (by simp (maxDischargeDepth := 12) [go_sem, le1, lt1, *])
  have z4 := fun o => keepz hb (b := W3.heap.size) (o := o) (by simp) (by simp (maxDischargeDepth := 12) [go_sem, le1, lt1, *])
  have HB4 := hide hb
  clear hb
  clear k3_0 k3_1 k3_2 k3_3 k3_4 k3_5 k3_6 k3_7 k3_8 k3_9 lak3_0 lbk3_0 lck3_0 ldk3_0 lek3_0 lak3_2 lbk3_2 lck3_2 ldk3_2 lek3_2 lak3_4 lbk3_4 lck3_4 ldk3_4 lek3_4 lak3_6 lbk3_6 lck3_6 ldk3_6 lek3_6 lak3_8 lbk3_8 lck3_8 ldk3_8 lek3_8
  have lak4_0 := cell_lt k4_0
  have lbk4_0 := Nat.le_of_lt lak4_0
  have lck4_0 := lt1 (k := 1) lak4_0
  have ldk4_0 := lt1 (k := 1) lck4_0
  have lek4_0 := lt1 (k := 1) ldk4_0
  have lnk4_0 := Nat.ne_of_lt lak4_0
  have lmk4_0 := (Nat.ne_of_lt lak4_0).symm
  have lak4_2 := cell_lt k4_2
  have lbk4_2 := Nat.le_of_lt lak4_2
  have lck4_2 := lt1 (k := 1) lak4_2
  have ldk4_2 := lt1 (k := 1) lck4_2
  have lek4_2 := lt1 (k := 1) ldk4_2
  have lnk4_2 := Nat.ne_of_lt lak4_2
  have lmk4_2 := (Nat.ne_of_lt lak4_2).symm
  have lak4_4 := cell_lt k4_4
  have lbk4_4 := Nat.le_of_lt lak4_4
  have lck4_4 := lt1 (k := 1) lak4_4
  have ldk4_4 := lt1 (k := 1) lck4_4
  have lek4_4 := lt1 (k := 1) ldk4_4
  have lnk4_4 := Nat.ne_of_lt lak4_4
  have lmk4_4 := (Nat.ne_of_lt lak4_4).symm
  have lak4_6 := cell_lt k4_6
  have lbk4_6 := Nat.le_of_lt lak4_6
  have lck4_6 := lt1 (k := 1) lak4_6
  have ldk4_6 := lt1 (k := 1) lck4_6
  have lek4_6 := lt1 (k := 1) ldk4_6
  have lnk4_6 := Nat.ne_of_lt lak4_6
  have lmk4_6 := (Nat.ne_of_lt lak4_6).symm
  have lak4_8 := cell_lt k4_8
  have lbk4_8 := Nat.le_of_lt lak4_8
  have lck4_8 := lt1 (k := 1) lak4_8
  have ldk4_8 := lt1 (k := 1) lck4_8
  have lek4_8 := lt1 (k := 1) ldk4_8
  have lnk4_8 := Nat.ne_of_lt lak4_8
  have lmk4_8 := (Nat.ne_of_lt lak4_8).symm
  have lak4_10 := cell_lt k4_10
  have lbk4_10 := Nat.le_of_lt lak4_10
  have lck4_10 := lt1 (k := 1) lak4_10
  have ldk4_10 := lt1 (k := 1) lck4_10
  have lek4_10 := lt1 (k := 1) ldk4_10
  have lnk4_10 := Nat.ne_of_lt lak4_10
  have lmk4_10 := (Nat.ne_of_lt lak4_10).symm
  have E4 : Hid (Below w.heap.size w W4) := by
    refine hide (bc ?_ (unhide HB4))
    refine ba ?_ _
    refine bc ?_ (unhide HB3)
    refine ba ?_ _
    refine bc ?_ (unhide HB2)
    refine bc ?_ (unhide HB1)
    exact ba (ba (ba (ba (Below.refl _ _) _) _) _) _
  have le4 : w.heap.size ≤ W3.heap.size := by
    have := (unhide HB1).size
    have := (unhide HB2).size
    have := (unhide HB3).size
    simp at *
    omega
  clear HB1 HB2 HB3 HB4 z3
  go_wp2_with fail
  refine (unhide L5 _).mono ?_
  rintro e W5 ⟨rfl, hb⟩
  have k5_0 := keep1 hb (b := w.heap.size) (o := 0) (v := .int .i64 a1) (by simp (maxDischargeDepth := 12) [go_sem, le1, lt1, *])
  have k5_1 := keep1 hb (b := w.heap.size) (o := 1) (v := .int .i64 a2) (by simp (maxDischargeDepth := 12) [go_sem, le1, lt1, *])
  have k5_2 := keep1 hb (b := w.heap.size + 1) (o := 0) (v := .int .i64 b1) (by simp (maxDischargeDepth := 12) [go_sem, le1, lt1, *])
  have k5_3 := keep1 hb (b := w.heap.size + 1) (o := 1) (v := .int .i64 b2) (by simp (maxDischargeDepth := 12) [go_sem, le1, lt1, *])
  have k5_4 := keep1 hb (b := w.heap.size + 1 + 1) (o := 0) (v := .int .i64 c1) (by simp (maxDischargeDepth := 12) [go_sem, le1, lt1, *])
  have k5_5 := keep1 hb (b := w.heap.size + 1 + 1) (o := 1) (v := .int .i64 c2) (by simp (maxDischargeDepth := 12) [go_sem, le1, lt1, *])
  have k5_6 := keep1 hb (b := w.heap.size + 1 + 1 + 1) (o := 0) (v := .int .i64 d1) (by simp (maxDischargeDepth := 12) [go_sem, le1, lt1, *])
  have k5_7 := keep1 hb (b := w.heap.size + 1 + 1 + 1) (o := 1) (v := .int .i64 d2) (by simp (maxDischargeDepth := 12) [go_sem, le1, lt1, *])
  have k5_8 := keep1 hb (b := W2.heap.size) (o := 0) (v := .int .i64 a1) (by simp (maxDischargeDepth := 12) [go_sem, le1, lt1, *])
  have k5_9 := keep1 hb (b := W2.heap.size) (o := 1) (v := .int .i64 a2) (by simp (maxDischargeDepth := 12) [go_sem, le1, lt1, *])
  have HB5 := hide hb
  clear hb
  clear k4_0 k4_1 k4_2 k4_3 k4_4 k4_5 k4_6 k4_7 k4_8 k4_9 k4_10 k4_11 lak4_0 lbk4_0 lck4_0 ldk4_0 lek4_0 lak4_2 lbk4_2 lck4_2 ldk4_2 lek4_2 lak4_4 lbk4_4 lck4_4 ldk4_4 lek4_4 lak4_6 lbk4_6 lck4_6 ldk4_6 lek4_6 lak4_8 lbk4_8 lck4_8 ldk4_8 lek4_8 lak4_10 lbk4_10 lck4_10 ldk4_10 lek4_10
  have lak5_0 := cell_lt k5_0
  have lbk5_0 := Nat.le_of_lt lak5_0
  have lck5_0 := lt1 (k := 1) lak5_0
  have ldk5_0 := lt1 (k := 1) lck5_0
  have lek5_0 := lt1 (k := 1) ldk5_0
  have lnk5_0 := Nat.ne_of_lt lak5_0
  have lmk5_0 := (Nat.ne_of_lt lak5_0).symm
  have lak5_2 := cell_lt k5_2
  have lbk5_2 := Nat.le_of_lt lak5_2
  have lck5_2 := lt1 (k := 1) lak5_2
  have ldk5_2 := lt1 (k := 1) lck5_2
  have lek5_2 := lt1 (k := 1) ldk5_2
  have lnk5_2 := Nat.ne_of_lt lak5_2
  have lmk5_2 := (Nat.ne_of_lt lak5_2).symm
  have lak5_4 := cell_lt k5_4
  have lbk5_4 := Nat.le_of_lt lak5_4
  have lck5_4 := lt1 (k := 1) lak5_4
  have ldk5_4 := lt1 (k := 1) lck5_4
  have lek5_4 := lt1 (k := 1) ldk5_4
  have lnk5_4 := Nat.ne_of_lt lak5_4
  have lmk5_4 := (Nat.ne_of_lt lak5_4).symm
  have lak5_6 := cell_lt k5_6
  have lbk5_6 := Nat.le_of_lt lak5_6
  have lck5_6 := lt1 (k := 1) lak5_6
  have ldk5_6 := lt1 (k := 1) lck5_6
  have lek5_6 := lt1 (k := 1) ldk5_6
  have lnk5_6 := Nat.ne_of_lt lak5_6
  have lmk5_6 := (Nat.ne_of_lt lak5_6).symm
  have lak5_8 := cell_lt k5_8
  have lbk5_8 := Nat.le_of_lt lak5_8
  have lck5_8 := lt1 (k := 1) lak5_8
  have ldk5_8 := lt1 (k := 1) lck5_8
  have lek5_8 := lt1 (k := 1) ldk5_8
  have lnk5_8 := Nat.ne_of_lt lak5_8
  have lmk5_8 := (Nat.ne_of_lt lak5_8).symm
  go_wp2_with fail
  refine (unhide L6 _).mono ?_
  rintro e W6 ⟨rfl, hb⟩
  have k6_0 := keep1 hb (b := w.heap.size) (o := 0) (v := .int .i64 a1) (by simp (maxDischargeDepth := 12) [go_sem, le1, lt1, *])
  have k6_1 := keep1 hb (b := w.heap.size) (o := 1) (v := .int .i64 a2) (by simp (maxDischargeDepth := 12) [go_sem, le1, lt1, *])
  have k6_2 := keep1 hb (b := w.heap.size + 1) (o := 0) (v := .int .i64 b1) (by simp (maxDischargeDepth := 12) [go_sem, le1, lt1, *])
  have k6_3 := keep1 hb (b := w.heap.size + 1) (o := 1) (v := .int .i64 b2) (by simp (maxDischargeDepth := 12) [go_sem, le1, lt1, *])
  have k6_4 := keep1 hb (b := w.heap.size + 1 + 1) (o := 0) (v := .int .i64 c1) (by simp (maxDischargeDepth := 12) [go_sem, le1, lt1, *])
  have k6_5 := keep1 hb (b := w.heap.size + 1 + 1) (o := 1) (v := .int .i64 c2) (by simp (maxDischargeDepth := 12) [go_sem, le1, lt1, *])
  have k6_6 := keep1 hb (b := w.heap.size + 1 + 1 + 1) (o := 0) (v := .int .i64 d1) (by simp (maxDischargeDepth := 12) [go_sem, le1, lt1, *])
  have k6_7 := keep1 hb (b := w.heap.size + 1 + 1 + 1) (o := 1) (v := .int .i64 d2) (by simp (maxDischargeDepth := 12) [go_sem, le1, lt1, *])
  have k6_8 := keep1 hb (b := W2.heap.size) (o := 0) (v := .int .i64 a1) (by simp (maxDischargeDepth := 12) [go_sem, le1, lt1, *])
  have k6_9 := keep1 hb (b := W2.heap.size) (o := 1) (v := .int .i64 a2) (by simp (maxDischargeDepth := 12) [go_sem, le1, lt1, *])
  have HB6 := hide hb
  clear hb
  clear k5_0 k5_1 k5_2 k5_3 k5_4 k5_5 k5_6 k5_7 k5_8 k5_9 lak5_0 lbk5_0 lck5_0 ldk5_0 lek5_0 lak5_2 lbk5_2 lck5_2 ldk5_2 lek5_2 lak5_4 lbk5_4 lck5_4 ldk5_4 lek5_4 lak5_6 lbk5_6 lck5_6 ldk5_6 lek5_6 lak5_8 lbk5_8 lck5_8 ldk5_8 lek5_8
  have lak6_0 := cell_lt k6_0
  have lbk6_0 := Nat.le_of_lt lak6_0
  have lck6_0 := lt1 (k := 1) lak6_0
  have ldk6_0 := lt1 (k := 1) lck6_0
  have lek6_0 := lt1 (k := 1) ldk6_0
  have lnk6_0 := Nat.ne_of_lt lak6_0
  have lmk6_0 := (Nat.ne_of_lt lak6_0).symm
  have lak6_2 := cell_lt k6_2
  have lbk6_2 := Nat.le_of_lt lak6_2
  have lck6_2 := lt1 (k := 1) lak6_2
  have ldk6_2 := lt1 (k := 1) lck6_2
  have lek6_2 := lt1 (k := 1) ldk6_2
  have lnk6_2 := Nat.ne_of_lt lak6_2
  have lmk6_2 := (Nat.ne_of_lt lak6_2).symm
  have lak6_4 := cell_lt k6_4
  have lbk6_4 := Nat.le_of_lt lak6_4
  have lck6_4 := lt1 (k := 1) lak6_4
  have ldk6_4 := lt1 (k := 1) lck6_4
  have lek6_4 := lt1 (k := 1) ldk6_4
  have lnk6_4 := Nat.ne_of_lt lak6_4
  have lmk6_4 := (Nat.ne_of_lt lak6_4).symm
  have lak6_6 := cell_lt k6_6
  have lbk6_6 := Nat.le_of_lt lak6_6
  have lck6_6 := lt1 (k := 1) lak6_6
  have ldk6_6 := lt1 (k := 1) lck6_6
  have lek6_6 := lt1 (k := 1) ldk6_6
  have lnk6_6 := Nat.ne_of_lt lak6_6
  have lmk6_6 := (Nat.ne_of_lt lak6_6).symm
  have lak6_8 := cell_lt k6_8
  have lbk6_8 := Nat.le_of_lt lak6_8
  have lck6_8 := lt1 (k := 1) lak6_8
  have ldk6_8 := lt1 (k := 1) lck6_8
  have lek6_8 := lt1 (k := 1) ldk6_8
  have lnk6_8 := Nat.ne_of_lt lak6_8
  have lmk6_8 := (Nat.ne_of_lt lak6_8).symm
  have E6 := hide (bc (bc (Below.setCell (Below.setCell (unhide E4) le4 _) le4 _) (unhide HB5)) (unhide HB6))
  clear E4 HB5 HB6
  go_wp2_with fail
  refine (whole_ints _ _ _).mono ?_
  rintro e w' ⟨rfl, rfl⟩
  go_wp2_with fail
  go_ret
  exact ⟨⟨_, rfl, le1 (le1 (unhide E6).size), blk_at _ _ (by simp)⟩, ba (ba (ba (unhide E6) _) _) _⟩

set_option maxRecDepth 100000 in
set_option maxHeartbeats 2000000 in
theorem alongM_eq_cb (a1 a2 b1 b2 c1 c2 d1 d2 : Int) (w : World)
    (L1 : Hid (∀ W, Calls Try.prog 91 #[.agg #[.int .i64 b1, .int .i64 b2], .agg #[.int .i64 a1, .int .i64 a2]] W fun e w' => e = .returned (.bool false) ∧ Below W.heap.size W w'))
    (L2 : Hid (∀ W, Calls Try.prog 91 #[.agg #[.int .i64 d1, .int .i64 d2], .agg #[.int .i64 c1, .int .i64 c2]] W fun e w' => e = .returned (.bool false) ∧ Below W.heap.size W w'))
    (L3 : Hid (∀ W, Calls Try.prog 91 #[.agg #[.int .i64 a1, .int .i64 a2], .agg #[.int .i64 c1, .int .i64 c2]] W fun e w' => e = .returned (.bool true) ∧ Below W.heap.size W w'))
    (L4 : Hid (∀ W, Calls Try.prog 91 #[.agg #[.int .i64 d1, .int .i64 d2], .agg #[.int .i64 b1, .int .i64 b2]] W fun e w' => e = .returned (.bool false) ∧ Below W.heap.size W w'))
    (q1 : (c1 == b1) = true) (q2 : (c2 == b2) = true)
    (L5 : Hid (∀ W, Calls Try.prog 79 #[.agg #[.int .i64 a1, .int .i64 a2], .agg #[.int .i64 b1, .int .i64 b2], .agg #[.int .i64 c1, .int .i64 c2]] W fun e w' => e = .returned (.bool true) ∧ Below W.heap.size W w')) (L6 : Hid (∀ W, Calls Try.prog 79 #[.agg #[.int .i64 c1, .int .i64 c2], .agg #[.int .i64 d1, .int .i64 d2], .agg #[.int .i64 c1, .int .i64 c2]] W fun e w' => e = .returned (.bool true) ∧ Below W.heap.size W w')) :
    Calls Try.prog 77 #[.agg #[.int .i64 a1, .int .i64 a2], .agg #[.int .i64 b1, .int .i64 b2], .agg #[.int .i64 c1, .int .i64 c2], .agg #[.int .i64 d1, .int .i64 d2]] w fun e w' => (∃ k, e = .returned (.slice (some ⟨k, 0, none⟩) 1 1) ∧ w.heap.size ≤ k ∧ w'.heap[k]? = some (.cells #[.int .i64 c1, .int .i64 c2, .int .i64 1] 93 (0, 0))) ∧ Below w.heap.size w w' := by
  go_enter Try.func77, Try.ntmps77
  go_wp2_with fail
  refine (unhide L1 _).mono ?_
  rintro e W1 ⟨rfl, hb⟩
  have k1_0 := keep1 hb (b := w.heap.size) (o := 0) (v := .int .i64 a1) (by simp (maxDischargeDepth := 12) [go_sem, le1, lt1, *])
  have k1_1 := keep1 hb (b := w.heap.size) (o := 1) (v := .int .i64 a2) (by simp (maxDischargeDepth := 12) [go_sem, le1, lt1, *])
  have k1_2 := keep1 hb (b := w.heap.size + 1) (o := 0) (v := .int .i64 b1) (by simp (maxDischargeDepth := 12) [go_sem, le1, lt1, *])
  have k1_3 := keep1 hb (b := w.heap.size + 1) (o := 1) (v := .int .i64 b2) (by simp (maxDischargeDepth := 12) [go_sem, le1, lt1, *])
  have k1_4 := keep1 hb (b := w.heap.size + 1 + 1) (o := 0) (v := .int .i64 c1) (by simp (maxDischargeDepth := 12) [go_sem, le1, lt1, *])
  have k1_5 := keep1 hb (b := w.heap.size + 1 + 1) (o := 1) (v := .int .i64 c2) (by simp (maxDischargeDepth := 12) [go_sem, le1, lt1, *])
  have k1_6 := keep1 hb (b := w.heap.size + 1 + 1 + 1) (o := 0) (v := .int .i64 d1) (by simp (maxDischargeDepth := 12) [go_sem, le1, lt1, *])
  have k1_7 := keep1 hb (b := w.heap.size + 1 + 1 + 1) (o := 1) (v := .int .i64 d2) (by simp (maxDischargeDepth := 12) [go_sem, le1, lt1, *])
  have HB1 := hide hb
  clear hb
  have lak1_0 := cell_lt k1_0
  have lbk1_0 := Nat.le_of_lt lak1_0
  have lck1_0 := lt1 (k := 1) lak1_0
  have ldk1_0 := lt1 (k := 1) lck1_0
  have lek1_0 := lt1 (k := 1) ldk1_0
  have lnk1_0 := Nat.ne_of_lt lak1_0
  have lmk1_0 := (Nat.ne_of_lt lak1_0).symm
  have lak1_2 := cell_lt k1_2
  have lbk1_2 := Nat.le_of_lt lak1_2
  have lck1_2 := lt1 (k := 1) lak1_2
  have ldk1_2 := lt1 (k := 1) lck1_2
  have lek1_2 := lt1 (k := 1) ldk1_2
  have lnk1_2 := Nat.ne_of_lt lak1_2
  have lmk1_2 := (Nat.ne_of_lt lak1_2).symm
  have lak1_4 := cell_lt k1_4
  have lbk1_4 := Nat.le_of_lt lak1_4
  have lck1_4 := lt1 (k := 1) lak1_4
  have ldk1_4 := lt1 (k := 1) lck1_4
  have lek1_4 := lt1 (k := 1) ldk1_4
  have lnk1_4 := Nat.ne_of_lt lak1_4
  have lmk1_4 := (Nat.ne_of_lt lak1_4).symm
  have lak1_6 := cell_lt k1_6
  have lbk1_6 := Nat.le_of_lt lak1_6
  have lck1_6 := lt1 (k := 1) lak1_6
  have ldk1_6 := lt1 (k := 1) lck1_6
  have lek1_6 := lt1 (k := 1) ldk1_6
  have lnk1_6 := Nat.ne_of_lt lak1_6
  have lmk1_6 := (Nat.ne_of_lt lak1_6).symm
  go_wp2_with fail
  refine (unhide L2 _).mono ?_
  rintro e W2 ⟨rfl, hb⟩
  have k2_0 := keep1 hb (b := w.heap.size) (o := 0) (v := .int .i64 a1) (by simp (maxDischargeDepth := 12) [go_sem, le1, lt1, *])
  have k2_1 := keep1 hb (b := w.heap.size) (o := 1) (v := .int .i64 a2) (by simp (maxDischargeDepth := 12) [go_sem, le1, lt1, *])
  have k2_2 := keep1 hb (b := w.heap.size + 1) (o := 0) (v := .int .i64 b1) (by simp (maxDischargeDepth := 12) [go_sem, le1, lt1, *])
  have k2_3 := keep1 hb (b := w.heap.size + 1) (o := 1) (v := .int .i64 b2) (by simp (maxDischargeDepth := 12) [go_sem, le1, lt1, *])
  have k2_4 := keep1 hb (b := w.heap.size + 1 + 1) (o := 0) (v := .int .i64 c1) (by simp (maxDischargeDepth := 12) [go_sem, le1, lt1, *])
  have k2_5 := keep1 hb (b := w.heap.size + 1 + 1) (o := 1) (v := .int .i64 c2) (by simp (maxDischargeDepth := 12) [go_sem, le1, lt1, *])
  have k2_6 := keep1 hb (b := w.heap.size + 1 + 1 + 1) (o := 0) (v := .int .i64 d1) (by simp (maxDischargeDepth := 12) [go_sem, le1, lt1, *])
  have k2_7 := keep1 hb (b := w.heap.size + 1 + 1 + 1) (o := 1) (v := .int .i64 d2) (by simp (maxDischargeDepth := 12) [go_sem, le1, lt1, *])
  have HB2 := hide hb
  clear hb
  clear k1_0 k1_1 k1_2 k1_3 k1_4 k1_5 k1_6 k1_7 lak1_0 lbk1_0 lck1_0 ldk1_0 lek1_0 lak1_2 lbk1_2 lck1_2 ldk1_2 lek1_2 lak1_4 lbk1_4 lck1_4 ldk1_4 lek1_4 lak1_6 lbk1_6 lck1_6 ldk1_6 lek1_6
  have lak2_0 := cell_lt k2_0
  have lbk2_0 := Nat.le_of_lt lak2_0
  have lck2_0 := lt1 (k := 1) lak2_0
  have ldk2_0 := lt1 (k := 1) lck2_0
  have lek2_0 := lt1 (k := 1) ldk2_0
  have lnk2_0 := Nat.ne_of_lt lak2_0
  have lmk2_0 := (Nat.ne_of_lt lak2_0).symm
  have lak2_2 := cell_lt k2_2
  have lbk2_2 := Nat.le_of_lt lak2_2
  have lck2_2 := lt1 (k := 1) lak2_2
  have ldk2_2 := lt1 (k := 1) lck2_2
  have lek2_2 := lt1 (k := 1) ldk2_2
  have lnk2_2 := Nat.ne_of_lt lak2_2
  have lmk2_2 := (Nat.ne_of_lt lak2_2).symm
  have lak2_4 := cell_lt k2_4
  have lbk2_4 := Nat.le_of_lt lak2_4
  have lck2_4 := lt1 (k := 1) lak2_4
  have ldk2_4 := lt1 (k := 1) lck2_4
  have lek2_4 := lt1 (k := 1) ldk2_4
  have lnk2_4 := Nat.ne_of_lt lak2_4
  have lmk2_4 := (Nat.ne_of_lt lak2_4).symm
  have lak2_6 := cell_lt k2_6
  have lbk2_6 := Nat.le_of_lt lak2_6
  have lck2_6 := lt1 (k := 1) lak2_6
  have ldk2_6 := lt1 (k := 1) lck2_6
  have lek2_6 := lt1 (k := 1) ldk2_6
  have lnk2_6 := Nat.ne_of_lt lak2_6
  have lmk2_6 := (Nat.ne_of_lt lak2_6).symm
  go_wp2_with fail
  refine (unhide L3 _).mono ?_
  rintro e W3 ⟨rfl, hb⟩
  have k3_0 := keep1 hb (b := w.heap.size) (o := 0) (v := .int .i64 a1) (by simp (maxDischargeDepth := 12) [go_sem, le1, lt1, *])
  have k3_1 := keep1 hb (b := w.heap.size) (o := 1) (v := .int .i64 a2) (by simp (maxDischargeDepth := 12) [go_sem, le1, lt1, *])
  have k3_2 := keep1 hb (b := w.heap.size + 1) (o := 0) (v := .int .i64 b1) (by simp (maxDischargeDepth := 12) [go_sem, le1, lt1, *])
  have k3_3 := keep1 hb (b := w.heap.size + 1) (o := 1) (v := .int .i64 b2) (by simp (maxDischargeDepth := 12) [go_sem, le1, lt1, *])
  have k3_4 := keep1 hb (b := w.heap.size + 1 + 1) (o := 0) (v := .int .i64 c1) (by simp (maxDischargeDepth := 12) [go_sem, le1, lt1, *])
  have k3_5 := keep1 hb (b := w.heap.size + 1 + 1) (o := 1) (v := .int .i64 c2) (by simp (maxDischargeDepth := 12) [go_sem, le1, lt1, *])
  have k3_6 := keep1 hb (b := w.heap.size + 1 + 1 + 1) (o := 0) (v := .int .i64 d1) (by simp (maxDischargeDepth := 12) [go_sem, le1, lt1, *])
  have k3_7 := keep1 hb (b := w.heap.size + 1 + 1 + 1) (o := 1) (v := .int .i64 d2) (by simp (maxDischargeDepth := 12) [go_sem, le1, lt1, *])
  have k3_8 := keep1 hb (b := W2.heap.size) (o := 0) (v := .int .i64 a1) (by simp (maxDischargeDepth := 12) [go_sem, le1, lt1, *])
  have k3_9 := keep1 hb (b := W2.heap.size) (o := 1) (v := .int .i64 a2) (by simp (maxDischargeDepth := 12) [go_sem, le1, lt1, *])
  have z3 := fun o => keepz hb (b := W2.heap.size) (o := o) (by simp) (by simp (maxDischargeDepth := 12) [go_sem, le1, lt1, *])
  have HB3 := hide hb
  clear hb
  clear k2_0 k2_1 k2_2 k2_3 k2_4 k2_5 k2_6 k2_7 lak2_0 lbk2_0 lck2_0 ldk2_0 lek2_0 lak2_2 lbk2_2 lck2_2 ldk2_2 lek2_2 lak2_4 lbk2_4 lck2_4 ldk2_4 lek2_4 lak2_6 lbk2_6 lck2_6 ldk2_6 lek2_6
  have lak3_0 := cell_lt k3_0
  have lbk3_0 := Nat.le_of_lt lak3_0
  have lck3_0 := lt1 (k := 1) lak3_0
  have ldk3_0 := lt1 (k := 1) lck3_0
  have lek3_0 := lt1 (k := 1) ldk3_0
  have lnk3_0 := Nat.ne_of_lt lak3_0
  have lmk3_0 := (Nat.ne_of_lt lak3_0).symm
  have lak3_2 := cell_lt k3_2
  have lbk3_2 := Nat.le_of_lt lak3_2
  have lck3_2 := lt1 (k := 1) lak3_2
  have ldk3_2 := lt1 (k := 1) lck3_2
  have lek3_2 := lt1 (k := 1) ldk3_2
  have lnk3_2 := Nat.ne_of_lt lak3_2
  have lmk3_2 := (Nat.ne_of_lt lak3_2).symm
  have lak3_4 := cell_lt k3_4
  have lbk3_4 := Nat.le_of_lt lak3_4
  have lck3_4 := lt1 (k := 1) lak3_4
  have ldk3_4 := lt1 (k := 1) lck3_4
  have lek3_4 := lt1 (k := 1) ldk3_4
  have lnk3_4 := Nat.ne_of_lt lak3_4
  have lmk3_4 := (Nat.ne_of_lt lak3_4).symm
  have lak3_6 := cell_lt k3_6
  have lbk3_6 := Nat.le_of_lt lak3_6
  have lck3_6 := lt1 (k := 1) lak3_6
  have ldk3_6 := lt1 (k := 1) lck3_6
  have lek3_6 := lt1 (k := 1) ldk3_6
  have lnk3_6 := Nat.ne_of_lt lak3_6
  have lmk3_6 := (Nat.ne_of_lt lak3_6).symm
  have lak3_8 := cell_lt k3_8
  have lbk3_8 := Nat.le_of_lt lak3_8
  have lck3_8 := lt1 (k := 1) lak3_8
  have ldk3_8 := lt1 (k := 1) lck3_8
  have lek3_8 := lt1 (k := 1) ldk3_8
  have lnk3_8 := Nat.ne_of_lt lak3_8
  have lmk3_8 := (Nat.ne_of_lt lak3_8).symm
  go_wp2_with fail
  refine (unhide L4 _).mono ?_
  rintro e W4 ⟨rfl, hb⟩
  have k4_0 := keep1 hb (b := w.heap.size) (o := 0) (v := .int .i64 a1) (by simp (maxDischargeDepth := 12) [go_sem, le1, lt1, *])
  have k4_1 := keep1 hb (b := w.heap.size) (o := 1) (v := .int .i64 a2) (by simp (maxDischargeDepth := 12) [go_sem, le1, lt1, *])
  have k4_2 := keep1 hb (b := w.heap.size + 1) (o := 0) (v := .int .i64 b1) (by simp (maxDischargeDepth := 12) [go_sem, le1, lt1, *])
  have k4_3 := keep1 hb (b := w.heap.size + 1) (o := 1) (v := .int .i64 b2) (by simp (maxDischargeDepth := 12) [go_sem, le1, lt1, *])
  have k4_4 := keep1 hb (b := w.heap.size + 1 + 1) (o := 0) (v := .int .i64 c1) (by simp (maxDischargeDepth := 12) [go_sem, le1, lt1, *])
  have k4_5 := keep1 hb (b := w.heap.size + 1 + 1) (o := 1) (v := .int .i64 c2) (by simp (maxDischargeDepth := 12) [go_sem, le1, lt1, *])
  have k4_6 := keep1 hb (b := w.heap.size + 1 + 1 + 1) (o := 0) (v := .int .i64 d1) (by simp (maxDischargeDepth := 12) [go_sem, le1, lt1, *])
  have k4_7 := keep1 hb (b := w.heap.size + 1 + 1 + 1) (o := 1) (v := .int .i64 d2) (by simp (maxDischargeDepth := 12) [go_sem, le1, lt1, *])
  have k4_8 := keep1 hb (b := W2.heap.size) (o := 0) (v := .int .i64 c1) (by simp (maxDischargeDepth := 12) [go_sem, le1, lt1, *])
  have k4_9 := keep1 hb (b := W2.heap.size) (o := 1) (v := .int .i64 c2) (by simp (maxDischargeDepth := 12) [go_sem, le1, lt1, *])
  have k4_10 := keep1 hb (b := W3.heap.size) (o := 0) (v := .int .i64 b1) (by simp (maxDischargeDepth := 12) [go_sem, le1, lt1, *])
  have k4_11 := keep1 hb (b := W3.heap.size) (o := 1) (v := .int .i64 b2) (by simp (maxDischargeDepth := 12) [go_sem, le1, lt1, *])
  have z4 := fun o => keepz hb (b := W3.heap.size) (o := o) (by simp) (by simp (maxDischargeDepth := 12) [go_sem, le1, lt1, *])
  have HB4 := hide hb
  clear hb
  clear k3_0 k3_1 k3_2 k3_3 k3_4 k3_5 k3_6 k3_7 k3_8 k3_9 lak3_0 lbk3_0 lck3_0 ldk3_0 lek3_0 lak3_2 lbk3_2 lck3_2 ldk3_2 lek3_2 lak3_4 lbk3_4 lck3_4 ldk3_4 lek3_4 lak3_6 lbk3_6 lck3_6 ldk3_6 lek3_6 lak3_8 lbk3_8 lck3_8 ldk3_8 lek3_8
  have lak4_0 := cell_lt k4_0
  have lbk4_0 := Nat.le_of_lt lak4_0
  have lck4_0 := lt1 (k := 1) lak4_0
  have ldk4_0 := lt1 (k := 1) lck4_0
  have lek4_0 := lt1 (k := 1) ldk4_0
  have lnk4_0 := Nat.ne_of_lt lak4_0
  have lmk4_0 := (Nat.ne_of_lt lak4_0).symm
  have lak4_2 := cell_lt k4_2
  have lbk4_2 := Nat.le_of_lt lak4_2
  have lck4_2 := lt1 (k := 1) lak4_2
  have ldk4_2 := lt1 (k := 1) lck4_2
  have lek4_2 := lt1 (k := 1) ldk4_2
  have lnk4_2 := Nat.ne_of_lt lak4_2
  have lmk4_2 := (Nat.ne_of_lt lak4_2).symm
  have lak4_4 := cell_lt k4_4
  have lbk4_4 := Nat.le_of_lt lak4_4
  have lck4_4 := lt1 (k := 1) lak4_4
  have ldk4_4 := lt1 (k := 1) lck4_4
  have lek4_4 := lt1 (k := 1) ldk4_4
  have lnk4_4 := Nat.ne_of_lt lak4_4
  have lmk4_4 := (Nat.ne_of_lt lak4_4).symm
  have lak4_6 := cell_lt k4_6
  have lbk4_6 := Nat.le_of_lt lak4_6
  have lck4_6 := lt1 (k := 1) lak4_6
  have ldk4_6 := lt1 (k := 1) lck4_6
  have lek4_6 := lt1 (k := 1) ldk4_6
  have lnk4_6 := Nat.ne_of_lt lak4_6
  have lmk4_6 := (Nat.ne_of_lt lak4_6).symm
  have lak4_8 := cell_lt k4_8
  have lbk4_8 := Nat.le_of_lt lak4_8
  have lck4_8 := lt1 (k := 1) lak4_8
  have ldk4_8 := lt1 (k := 1) lck4_8
  have lek4_8 := lt1 (k := 1) ldk4_8
  have lnk4_8 := Nat.ne_of_lt lak4_8
  have lmk4_8 := (Nat.ne_of_lt lak4_8).symm
  have lak4_10 := cell_lt k4_10
  have lbk4_10 := Nat.le_of_lt lak4_10
  have lck4_10 := lt1 (k := 1) lak4_10
  have ldk4_10 := lt1 (k := 1) lck4_10
  have lek4_10 := lt1 (k := 1) ldk4_10
  have lnk4_10 := Nat.ne_of_lt lak4_10
  have lmk4_10 := (Nat.ne_of_lt lak4_10).symm
  have E4 : Hid (Below w.heap.size w W4) := by
    refine hide (bc ?_ (unhide HB4))
    refine ba ?_ _
    refine Below.setCell (Below.setCell ?_ (le_bel (bc (ba (ba (ba (ba (Below.refl w.heap.size w) _) _) _) _) (unhide HB1)) (unhide HB2)) _) (le_bel (bc (ba (ba (ba (ba (Below.refl w.heap.size w) _) _) _) _) (unhide HB1)) (unhide HB2)) _
    refine bc ?_ (unhide HB3)
    refine ba ?_ _
    refine bc ?_ (unhide HB2)
    refine bc ?_ (unhide HB1)
    exact ba (ba (ba (ba (Below.refl _ _) _) _) _) _
  have le4 : w.heap.size ≤ W3.heap.size := by
    have := (unhide HB1).size
    have := (unhide HB2).size
    have := (unhide HB3).size
    simp at *
    omega
  clear HB1 HB2 HB3 HB4 z3
  go_wp2_with fail
  refine (unhide L5 _).mono ?_
  rintro e W5 ⟨rfl, hb⟩
  have k5_0 := keep1 hb (b := w.heap.size) (o := 0) (v := .int .i64 a1) (by simp (maxDischargeDepth := 12) [go_sem, le1, lt1, *])
  have k5_1 := keep1 hb (b := w.heap.size) (o := 1) (v := .int .i64 a2) (by simp (maxDischargeDepth := 12) [go_sem, le1, lt1, *])
  have k5_2 := keep1 hb (b := w.heap.size + 1) (o := 0) (v := .int .i64 b1) (by simp (maxDischargeDepth := 12) [go_sem, le1, lt1, *])
  have k5_3 := keep1 hb (b := w.heap.size + 1) (o := 1) (v := .int .i64 b2) (by simp (maxDischargeDepth := 12) [go_sem, le1, lt1, *])
  have k5_4 := keep1 hb (b := w.heap.size + 1 + 1) (o := 0) (v := .int .i64 c1) (by simp (maxDischargeDepth := 12) [go_sem, le1, lt1, *])
  have k5_5 := keep1 hb (b := w.heap.size + 1 + 1) (o := 1) (v := .int .i64 c2) (by simp (maxDischargeDepth := 12) [go_sem, le1, lt1, *])
  have k5_6 := keep1 hb (b := w.heap.size + 1 + 1 + 1) (o := 0) (v := .int .i64 d1) (by simp (maxDischargeDepth := 12) [go_sem, le1, lt1, *])
  have k5_7 := keep1 hb (b := w.heap.size + 1 + 1 + 1) (o := 1) (v := .int .i64 d2) (by simp (maxDischargeDepth := 12) [go_sem, le1, lt1, *])
  have k5_8 := keep1 hb (b := W2.heap.size) (o := 0) (v := .int .i64 c1) (by simp (maxDischargeDepth := 12) [go_sem, le1, lt1, *])
  have k5_9 := keep1 hb (b := W2.heap.size) (o := 1) (v := .int .i64 c2) (by simp (maxDischargeDepth := 12) [go_sem, le1, lt1, *])
  have HB5 := hide hb
  clear hb
  clear k4_0 k4_1 k4_2 k4_3 k4_4 k4_5 k4_6 k4_7 k4_8 k4_9 k4_10 k4_11 lak4_0 lbk4_0 lck4_0 ldk4_0 lek4_0 lak4_2 lbk4_2 lck4_2 ldk4_2 lek4_2 lak4_4 lbk4_4 lck4_4 ldk4_4 lek4_4 lak4_6 lbk4_6 lck4_6 ldk4_6 lek4_6 lak4_8 lbk4_8 lck4_8 ldk4_8 lek4_8 lak4_10 lbk4_10 lck4_10 ldk4_10 lek4_10
  have lak5_0 := cell_lt k5_0
  have lbk5_0 := Nat.le_of_lt lak5_0
  have lck5_0 := lt1 (k := 1) lak5_0
  have ldk5_0 := lt1 (k := 1) lck5_0
  have lek5_0 := lt1 (k := 1) ldk5_0
  have lnk5_0 := Nat.ne_of_lt lak5_0
  have lmk5_0 := (Nat.ne_of_lt lak5_0).symm
  have lak5_2 := cell_lt k5_2
  have lbk5_2 := Nat.le_of_lt lak5_2
  have lck5_2 := lt1 (k := 1) lak5_2
  have ldk5_2 := lt1 (k := 1) lck5_2
  have lek5_2 := lt1 (k := 1) ldk5_2
  have lnk5_2 := Nat.ne_of_lt lak5_2
  have lmk5_2 := (Nat.ne_of_lt lak5_2).symm
  have lak5_4 := cell_lt k5_4
  have lbk5_4 := Nat.le_of_lt lak5_4
  have lck5_4 := lt1 (k := 1) lak5_4
  have ldk5_4 := lt1 (k := 1) lck5_4
  have lek5_4 := lt1 (k := 1) ldk5_4
  have lnk5_4 := Nat.ne_of_lt lak5_4
  have lmk5_4 := (Nat.ne_of_lt lak5_4).symm
  have lak5_6 := cell_lt k5_6
  have lbk5_6 := Nat.le_of_lt lak5_6
  have lck5_6 := lt1 (k := 1) lak5_6
  have ldk5_6 := lt1 (k := 1) lck5_6
  have lek5_6 := lt1 (k := 1) ldk5_6
  have lnk5_6 := Nat.ne_of_lt lak5_6
  have lmk5_6 := (Nat.ne_of_lt lak5_6).symm
  have lak5_8 := cell_lt k5_8
  have lbk5_8 := Nat.le_of_lt lak5_8
  have lck5_8 := lt1 (k := 1) lak5_8
  have ldk5_8 := lt1 (k := 1) lck5_8
  have lek5_8 := lt1 (k := 1) ldk5_8
  have lnk5_8 := Nat.ne_of_lt lak5_8
  have lmk5_8 := (Nat.ne_of_lt lak5_8).symm
  go_wp2_with fail
  refine (unhide L6 _).mono ?_
  rintro e W6 ⟨rfl, hb⟩
  have k6_0 := keep1 hb (b := w.heap.size) (o := 0) (v := .int .i64 a1) (by simp (maxDischargeDepth := 12) [go_sem, le1, lt1, *])
  have k6_1 := keep1 hb (b := w.heap.size) (o := 1) (v := .int .i64 a2) (by simp (maxDischargeDepth := 12) [go_sem, le1, lt1, *])
  have k6_2 := keep1 hb (b := w.heap.size + 1) (o := 0) (v := .int .i64 b1) (by simp (maxDischargeDepth := 12) [go_sem, le1, lt1, *])
  have k6_3 := keep1 hb (b := w.heap.size + 1) (o := 1) (v := .int .i64 b2) (by simp (maxDischargeDepth := 12) [go_sem, le1, lt1, *])
  have k6_4 := keep1 hb (b := w.heap.size + 1 + 1) (o := 0) (v := .int .i64 c1) (by simp (maxDischargeDepth := 12) [go_sem, le1, lt1, *])
  have k6_5 := keep1 hb (b := w.heap.size + 1 + 1) (o := 1) (v := .int .i64 c2) (by simp (maxDischargeDepth := 12) [go_sem, le1, lt1, *])
  have k6_6 := keep1 hb (b := w.heap.size + 1 + 1 + 1) (o := 0) (v := .int .i64 d1) (by simp (maxDischargeDepth := 12) [go_sem, le1, lt1, *])
  have k6_7 := keep1 hb (b := w.heap.size + 1 + 1 + 1) (o := 1) (v := .int .i64 d2) (by simp (maxDischargeDepth := 12) [go_sem, le1, lt1, *])
  have k6_8 := keep1 hb (b := W2.heap.size) (o := 0) (v := .int .i64 c1) (by simp (maxDischargeDepth := 12) [go_sem, le1, lt1, *])
  have k6_9 := keep1 hb (b := W2.heap.size) (o := 1) (v := .int .i64 c2) (by simp (maxDischargeDepth := 12) [go_sem, le1, lt1, *])
  have HB6 := hide hb
  clear hb
  clear k5_0 k5_1 k5_2 k5_3 k5_4 k5_5 k5_6 k5_7 k5_8 k5_9 lak5_0 lbk5_0 lck5_0 ldk5_0 lek5_0 lak5_2 lbk5_2 lck5_2 ldk5_2 lek5_2 lak5_4 lbk5_4 lck5_4 ldk5_4 lek5_4 lak5_6 lbk5_6 lck5_6 ldk5_6 lek5_6 lak5_8 lbk5_8 lck5_8 ldk5_8 lek5_8
  have lak6_0 := cell_lt k6_0
  have lbk6_0 := Nat.le_of_lt lak6_0
  have lck6_0 := lt1 (k := 1) lak6_0
  have ldk6_0 := lt1 (k := 1) lck6_0
  have lek6_0 := lt1 (k := 1) ldk6_0
  have lnk6_0 := Nat.ne_of_lt lak6_0
  have lmk6_0 := (Nat.ne_of_lt lak6_0).symm
  have lak6_2 := cell_lt k6_2
  have lbk6_2 := Nat.le_of_lt lak6_2
  have lck6_2 := lt1 (k := 1) lak6_2
  have ldk6_2 := lt1 (k := 1) lck6_2
  have lek6_2 := lt1 (k := 1) ldk6_2
  have lnk6_2 := Nat.ne_of_lt lak6_2
  have lmk6_2 := (Nat.ne_of_lt lak6_2).symm
  have lak6_4 := cell_lt k6_4
  have lbk6_4 := Nat.le_of_lt lak6_4
  have lck6_4 := lt1 (k := 1) lak6_4
  have ldk6_4 := lt1 (k := 1) lck6_4
  have lek6_4 := lt1 (k := 1) ldk6_4
  have lnk6_4 := Nat.ne_of_lt lak6_4
  have lmk6_4 := (Nat.ne_of_lt lak6_4).symm
  have lak6_6 := cell_lt k6_6
  have lbk6_6 := Nat.le_of_lt lak6_6
  have lck6_6 := lt1 (k := 1) lak6_6
  have ldk6_6 := lt1 (k := 1) lck6_6
  have lek6_6 := lt1 (k := 1) ldk6_6
  have lnk6_6 := Nat.ne_of_lt lak6_6
  have lmk6_6 := (Nat.ne_of_lt lak6_6).symm
  have lak6_8 := cell_lt k6_8
  have lbk6_8 := Nat.le_of_lt lak6_8
  have lck6_8 := lt1 (k := 1) lak6_8
  have ldk6_8 := lt1 (k := 1) lck6_8
  have lek6_8 := lt1 (k := 1) ldk6_8
  have lnk6_8 := Nat.ne_of_lt lak6_8
  have lmk6_8 := (Nat.ne_of_lt lak6_8).symm
  have E6 := hide (bc (bc (unhide E4) (unhide HB5)) (unhide HB6))
  clear E4 HB5 HB6
  go_wp2_with fail
  refine (whole_ints _ _ _).mono ?_
  rintro e w' ⟨rfl, rfl⟩
  go_wp2_with fail
  go_ret
  exact ⟨⟨_, rfl, le1 (le1 (unhide E6).size), blk_at _ _ (by simp)⟩, ba (ba (ba (unhide E6) _) _) _⟩

set_option maxRecDepth 100000 in
set_option maxHeartbeats 2000000 in
theorem alongM_eq_cd (a1 a2 b1 b2 c1 c2 d1 d2 : Int) (w : World)
    (L1 : Hid (∀ W, Calls Try.prog 91 #[.agg #[.int .i64 b1, .int .i64 b2], .agg #[.int .i64 a1, .int .i64 a2]] W fun e w' => e = .returned (.bool false) ∧ Below W.heap.size W w'))
    (L2 : Hid (∀ W, Calls Try.prog 91 #[.agg #[.int .i64 d1, .int .i64 d2], .agg #[.int .i64 c1, .int .i64 c2]] W fun e w' => e = .returned (.bool false) ∧ Below W.heap.size W w'))
    (L3 : Hid (∀ W, Calls Try.prog 91 #[.agg #[.int .i64 a1, .int .i64 a2], .agg #[.int .i64 c1, .int .i64 c2]] W fun e w' => e = .returned (.bool true) ∧ Below W.heap.size W w'))
    (L4 : Hid (∀ W, Calls Try.prog 91 #[.agg #[.int .i64 d1, .int .i64 d2], .agg #[.int .i64 b1, .int .i64 b2]] W fun e w' => e = .returned (.bool true) ∧ Below W.heap.size W w'))
    (q1 : (c1 == d1) = true) (q2 : (c2 == d2) = true)
    (L5 : Hid (∀ W, Calls Try.prog 79 #[.agg #[.int .i64 a1, .int .i64 a2], .agg #[.int .i64 b1, .int .i64 b2], .agg #[.int .i64 c1, .int .i64 c2]] W fun e w' => e = .returned (.bool true) ∧ Below W.heap.size W w')) (L6 : Hid (∀ W, Calls Try.prog 79 #[.agg #[.int .i64 c1, .int .i64 c2], .agg #[.int .i64 d1, .int .i64 d2], .agg #[.int .i64 c1, .int .i64 c2]] W fun e w' => e = .returned (.bool true) ∧ Below W.heap.size W w')) :
    Calls Try.prog 77 #[.agg #[.int .i64 a1, .int .i64 a2], .agg #[.int .i64 b1, .int .i64 b2], .agg #[.int .i64 c1, .int .i64 c2], .agg #[.int .i64 d1, .int .i64 d2]] w fun e w' => (∃ k, e = .returned (.slice (some ⟨k, 0, none⟩) 1 1) ∧ w.heap.size ≤ k ∧ w'.heap[k]? = some (.cells #[.int .i64 c1, .int .i64 c2, .int .i64 1] 93 (0, 0))) ∧ Below w.heap.size w w' := by
  go_enter Try.func77, Try.ntmps77
  go_wp2_with fail
  refine (unhide L1 _).mono ?_
  rintro e W1 ⟨rfl, hb⟩
  have k1_0 := keep1 hb (b := w.heap.size) (o := 0) (v := .int .i64 a1) (by simp (maxDischargeDepth := 12) [go_sem, le1, lt1, *])
  have k1_1 := keep1 hb (b := w.heap.size) (o := 1) (v := .int .i64 a2) (by simp (maxDischargeDepth := 12) [go_sem, le1, lt1, *])
  have k1_2 := keep1 hb (b := w.heap.size + 1) (o := 0) (v := .int .i64 b1) (by simp (maxDischargeDepth := 12) [go_sem, le1, lt1, *])
  have k1_3 := keep1 hb (b := w.heap.size + 1) (o := 1) (v := .int .i64 b2) (by simp (maxDischargeDepth := 12) [go_sem, le1, lt1, *])
  have k1_4 := keep1 hb (b := w.heap.size + 1 + 1) (o := 0) (v := .int .i64 c1) (by simp (maxDischargeDepth := 12) [go_sem, le1, lt1, *])
  have k1_5 := keep1 hb (b := w.heap.size + 1 + 1) (o := 1) (v := .int .i64 c2) (by simp (maxDischargeDepth := 12) [go_sem, le1, lt1, *])
  have k1_6 := keep1 hb (b := w.heap.size + 1 + 1 + 1) (o := 0) (v := .int .i64 d1) (by simp (maxDischargeDepth := 12) [go_sem, le1, lt1, *])
  have k1_7 := keep1 hb (b := w.heap.size + 1 + 1 + 1) (o := 1) (v := .int .i64 d2) (by simp (maxDischargeDepth := 12) [go_sem, le1, lt1, *])
  have HB1 := hide hb
  clear hb
  have lak1_0 := cell_lt k1_0
  have lbk1_0 := Nat.le_of_lt lak1_0
  have lck1_0 := lt1 (k := 1) lak1_0
  have ldk1_0 := lt1 (k := 1) lck1_0
  have lek1_0 := lt1 (k := 1) ldk1_0
  have lnk1_0 := Nat.ne_of_lt lak1_0
  have lmk1_0 := (Nat.ne_of_lt lak1_0).symm
  have lak1_2 := cell_lt k1_2
  have lbk1_2 := Nat.le_of_lt lak1_2
  have lck1_2 := lt1 (k := 1) lak1_2
  have ldk1_2 := lt1 (k := 1) lck1_2
  have lek1_2 := lt1 (k := 1) ldk1_2
  have lnk1_2 := Nat.ne_of_lt lak1_2
  have lmk1_2 := (Nat.ne_of_lt lak1_2).symm
  have lak1_4 := cell_lt k1_4
  have lbk1_4 := Nat.le_of_lt lak1_4
  have lck1_4 := lt1 (k := 1) lak1_4
  have ldk1_4 := lt1 (k := 1) lck1_4
  have lek1_4 := lt1 (k := 1) ldk1_4
  have lnk1_4 := Nat.ne_of_lt lak1_4
  have lmk1_4 := (Nat.ne_of_lt lak1_4).symm
  have lak1_6 := cell_lt k1_6
  have lbk1_6 := Nat.le_of_lt lak1_6
  have lck1_6 := lt1 (k := 1) lak1_6
  have ldk1_6 := lt1 (k := 1) lck1_6
  have lek1_6 := lt1 (k := 1) ldk1_6
  have lnk1_6 := Nat.ne_of_lt lak1_6
  have lmk1_6 := (Nat.ne_of_lt lak1_6).symm
  go_wp2_with fail
  refine (unhide L2 _).mono ?_
  rintro e W2 ⟨rfl, hb⟩
  have k2_0 := keep1 hb (b := w.heap.size) (o := 0) (v := .int .i64 a1) (by simp (maxDischargeDepth := 12) [go_sem, le1, lt1, *])
  have k2_1 := keep1 hb (b := w.heap.size) (o := 1) (v := .int .i64 a2) (by simp (maxDischargeDepth := 12) [go_sem, le1, lt1, *])
  have k2_2 := keep1 hb (b := w.heap.size + 1) (o := 0) (v := .int .i64 b1) (by simp (maxDischargeDepth := 12) [go_sem, le1, lt1, *])
  have k2_3 := keep1 hb (b := w.heap.size + 1) (o := 1) (v := .int .i64 b2) (by simp (maxDischargeDepth := 12) [go_sem, le1, lt1, *])
  have k2_4 := keep1 hb (b := w.heap.size + 1 + 1) (o := 0) (v := .int .i64 c1) (by simp (maxDischargeDepth := 12) [go_sem, le1, lt1, *])
  have k2_5 := keep1 hb (b := w.heap.size + 1 + 1) (o := 1) (v := .int .i64 c2) (by simp (maxDischargeDepth := 12) [go_sem, le1, lt1, *])
  have k2_6 := keep1 hb (b := w.heap.size + 1 + 1 + 1) (o := 0) (v := .int .i64 d1) (by simp (maxDischargeDepth := 12) [go_sem, le1, lt1, *])
  have k2_7 := keep1 hb (b := w.heap.size + 1 + 1 + 1) (o := 1) (v := .int .i64 d2) (by simp (maxDischargeDepth := 12) [go_sem, le1, lt1, *])
  have HB2 := hide hb
  clear hb
  clear k1_0 k1_1 k1_2 k1_3 k1_4 k1_5 k1_6 k1_7 lak1_0 lbk1_0 lck1_0 ldk1_0 lek1_0 lak1_2 lbk1_2 lck1_2 ldk1_2 lek1_2 lak1_4 lbk1_4 lck1_4 ldk1_4 lek1_4 lak1_6 lbk1_6 lck1_6 ldk1_6 lek1_6
  have lak2_0 := cell_lt k2_0
  have lbk2_0 := Nat.le_of_lt lak2_0
  have lck2_0 := lt1 (k := 1) lak2_0
  have ldk2_0 := lt1 (k := 1) lck2_0
  have lek2_0 := lt1 (k := 1) ldk2_0
  have lnk2_0 := Nat.ne_of_lt lak2_0
  have lmk2_0 := (Nat.ne_of_lt lak2_0).symm
  have lak2_2 := cell_lt k2_2
  have lbk2_2 := Nat.le_of_lt lak2_2
  have lck2_2 := lt1 (k := 1) lak2_2
  have ldk2_2 := lt1 (k := 1) lck2_2
  have lek2_2 := lt1 (k := 1) ldk2_2
  have lnk2_2 := Nat.ne_of_lt lak2_2
  have lmk2_2 := (Nat.ne_of_lt lak2_2).symm
  have lak2_4 := cell_lt k2_4
  have lbk2_4 := Nat.le_of_lt lak2_4
  have lck2_4 := lt1 (k := 1) lak2_4
  have ldk2_4 := lt1 (k := 1) lck2_4
  have lek2_4 := lt1 (k := 1) ldk2_4
  have lnk2_4 := Nat.ne_of_lt lak2_4
  have lmk2_4 := (Nat.ne_of_lt lak2_4).symm
  have lak2_6 := cell_lt k2_6
  have lbk2_6 := Nat.le_of_lt lak2_6
  have lck2_6 := lt1 (k := 1) lak2_6
  have ldk2_6 := lt1 (k := 1) lck2_6
  have lek2_6 := lt1 (k := 1) ldk2_6
  have lnk2_6 := Nat.ne_of_lt lak2_6
  have lmk2_6 := (Nat.ne_of_lt lak2_6).symm
  go_wp2_with fail
  refine (unhide L3 _).mono ?_
  rintro e W3 ⟨rfl, hb⟩
  have k3_0 := keep1 hb (b := w.heap.size) (o := 0) (v := .int .i64 a1) (by simp (maxDischargeDepth := 12) [go_sem, le1, lt1, *])
  have k3_1 := keep1 hb (b := w.heap.size) (o := 1) (v := .int .i64 a2) (by simp (maxDischargeDepth := 12) [go_sem, le1, lt1, *])
  have k3_2 := keep1 hb (b := w.heap.size + 1) (o := 0) (v := .int .i64 b1) (by simp (maxDischargeDepth := 12) [go_sem, le1, lt1, *])
  have k3_3 := keep1 hb (b := w.heap.size + 1) (o := 1) (v := .int .i64 b2) (by simp (maxDischargeDepth := 12) [go_sem, le1, lt1, *])
  have k3_4 := keep1 hb (b := w.heap.size + 1 + 1) (o := 0) (v := .int .i64 c1) (by simp (maxDischargeDepth := 12) [go_sem, le1, lt1, *])
  have k3_5 := keep1 hb (b := w.heap.size + 1 + 1) (o := 1) (v := .int .i64 c2) (by simp (maxDischargeDepth := 12) [go_sem, le1, lt1, *])
  have k3_6 := keep1 hb (b := w.heap.size + 1 + 1 + 1) (o := 0) (v := .int .i64 d1) (by simp (maxDischargeDepth := 12) [go_sem, le1, lt1, *])
  have k3_7 := keep1 hb (b := w.heap.size + 1 + 1 + 1) (o := 1) (v := .int .i64 d2) (by simp (maxDischargeDepth := 12) [go_sem, le1, lt1, *])
  have k3_8 := keep1 hb (b := W2.heap.size) (o := 0) (v := .int .i64 a1) (by simp (maxDischargeDepth := 12) [go_sem, le1, lt1, *])
  have k3_9 := keep1 hb (b := W2.heap.size) (o := 1) (v := .int .i64 a2) (by simp (maxDischargeDepth := 12) [go_sem, le1, lt1, *])
  have z3 := fun o => keepz hb (b := W2.heap.size) (o := o) (by simp) (by simp (maxDischargeDepth := 12) [go_sem, le1, lt1, *])
  have HB3 := hide hb
  clear hb
  clear k2_0 k2_1 k2_2 k2_3 k2_4 k2_5 k2_6 k2_7 lak2_0 lbk2_0 lck2_0 ldk2_0 lek2_0 lak2_2 lbk2_2 lck2_2 ldk2_2 lek2_2 lak2_4 lbk2_4 lck2_4 ldk2_4 lek2_4 lak2_6 lbk2_6 lck2_6 ldk2_6 lek2_6
  have lak3_0 := cell_lt k3_0
  have lbk3_0 := Nat.le_of_lt lak3_0
  have lck3_0 := lt1 (k := 1) lak3_0
  have ldk3_0 := lt1 (k := 1) lck3_0
  have lek3_0 := lt1 (k := 1) ldk3_0
  have lnk3_0 := Nat.ne_of_lt lak3_0
  have lmk3_0 := (Nat.ne_of_lt lak3_0).symm
  have lak3_2 := cell_lt k3_2
  have lbk3_2 := Nat.le_of_lt lak3_2
  have lck3_2 := lt1 (k := 1) lak3_2
  have ldk3_2 := lt1 (k := 1) lck3_2
  have lek3_2 := lt1 (k := 1) ldk3_2
  have lnk3_2 := Nat.ne_of_lt lak3_2
  have lmk3_2 := (Nat.ne_of_lt lak3_2).symm
  have lak3_4 := cell_lt k3_4
  have lbk3_4 := Nat.le_of_lt lak3_4
  have lck3_4 := lt1 (k := 1) lak3_4
  have ldk3_4 := lt1 (k := 1) lck3_4
  have lek3_4 := lt1 (k := 1) ldk3_4
  have lnk3_4 := Nat.ne_of_lt lak3_4
  have lmk3_4 := (Nat.ne_of_lt lak3_4).symm
  have lak3_6 := cell_lt k3_6
  have lbk3_6 := Nat.le_of_lt lak3_6
  have lck3_6 := lt1 (k := 1) lak3_6
  have ldk3_6 := lt1 (k := 1) lck3_6
  have lek3_6 := lt1 (k := 1) ldk3_6
  have lnk3_6 := Nat.ne_of_lt lak3_6
  have lmk3_6 := (Nat.ne_of_lt lak3_6).symm
  have lak3_8 := cell_lt k3_8
  have lbk3_8 := Nat.le_of_lt lak3_8
  have lck3_8 := lt1 (k := 1) lak3_8
  have ldk3_8 := lt1 (k := 1) lck3_8
  have lek3_8 := lt1 (k := 1) ldk3_8
  have lnk3_8 := Nat.ne_of_lt lak3_8
  have lmk3_8 := (Nat.ne_of_lt lak3_8).symm
  go_wp2_with fail
  refine (unhide L4 _).mono ?_
  rintro e W4 ⟨rfl, hb⟩
  have k4_0 := keep1 hb (b := w.heap.size) (o := 0) (v := .int .i64 a1) (by simp (maxDischargeDepth := 12) [go_sem, le1, lt1, *])
  have k4_1 := keep1 hb (b := w.heap.size) (o := 1) (v := .int .i64 a2) (by simp (maxDischargeDepth := 12) [go_sem, le1, lt1, *])
  have k4_2 := keep1 hb (b := w.heap.size + 1) (o := 0) (v := .int .i64 b1) (by simp (maxDischargeDepth := 12) [go_sem, le1, lt1, *])
  have k4_3 := keep1 hb (b := w.heap.size + 1) (o := 1) (v := .int .i64 b2) (by simp (maxDischargeDepth := 12) [go_sem, le1, lt1, *])
  have k4_4 := keep1 hb (b := w.heap.size + 1 + 1) (o := 0) (v := .int .i64 c1) (by simp (maxDischargeDepth := 12) [go_sem, le1, lt1, *])
  have k4_5 := keep1 hb (b := w.heap.size + 1 + 1) (o := 1) (v := .int .i64 c2) (by simp (maxDischargeDepth := 12) [go_sem, le1, lt1, *])
  have k4_6 := keep1 hb (b := w.heap.size + 1 + 1 + 1) (o := 0) (v := .int .i64 d1) (by simp (maxDischargeDepth := 12) [go_sem, le1, lt1, *])
  have k4_7 := keep1 hb (b := w.heap.size + 1 + 1 + 1) (o := 1) (v := .int .i64 d2) (by simp (maxDischargeDepth := 12) [go_sem, le1, lt1, *])
  have k4_8 := keep1 hb (b := W2.heap.size) (o := 0) (v := .int .i64 c1) (by simp (maxDischargeDepth := 12) [go_sem, le1, lt1, *])
  have k4_9 := keep1 hb (b := W2.heap.size) (o := 1) (v := .int .i64 c2) (by simp (maxDischargeDepth := 12) [go_sem, le1, lt1, *])
  have k4_10 := keep1 hb (b := W3.heap.size) (o := 0) (v := .int .i64 b1) (by simp (maxDischargeDepth := 12) [go_sem, le1, lt1, *])
  have k4_11 := keep1 hb (b := W3.heap.size) (o := 1) (v := .int .i64 b2) (by simp (maxDischargeDepth := 12) [go_sem, le1, lt1, *])
  have z4 := fun o => keepz hb (b := W3.heap.size) (o := o) (by simp) (by simp (maxDischargeDepth := 12) [go_sem, le1, lt1, *])
  have HB4 := hide hb
  clear hb
  clear k3_0 k3_1 k3_2 k3_3 k3_4 k3_5 k3_6 k3_7 k3_8 k3_9 lak3_0 lbk3_0 lck3_0 ldk3_0 lek3_0 lak3_2 lbk3_2 lck3_2 ldk3_2 lek3_2 lak3_4 lbk3_4 lck3_4 ldk3_4 lek3_4 lak3_6 lbk3_6 lck3_6 ldk3_6 lek3_6 lak3_8 lbk3_8 lck3_8 ldk3_8 lek3_8
  have lak4_0 := cell_lt k4_0
  have lbk4_0 := Nat.le_of_lt lak4_0
  have lck4_0 := lt1 (k := 1) lak4_0
  have ldk4_0 := lt1 (k := 1) lck4_0
  have lek4_0 := lt1 (k := 1) ldk4_0
  have lnk4_0 := Nat.ne_of_lt lak4_0
  have lmk4_0 := (Nat.ne_of_lt lak4_0).symm
  have lak4_2 := cell_lt k4_2
  have lbk4_2 := Nat.le_of_lt lak4_2
  have lck4_2 := lt1 (k := 1) lak4_2
  have ldk4_2 := lt1 (k := 1) lck4_2
  have lek4_2 := lt1 (k := 1) ldk4_2
  have lnk4_2 := Nat.ne_of_lt lak4_2
  have lmk4_2 := (Nat.ne_of_lt lak4_2).symm
  have lak4_4 := cell_lt k4_4
  have lbk4_4 := Nat.le_of_lt lak4_4
  have lck4_4 := lt1 (k := 1) lak4_4
  have ldk4_4 := lt1 (k := 1) lck4_4
  have lek4_4 := lt1 (k := 1) ldk4_4
  have lnk4_4 := Nat.ne_of_lt lak4_4
  have lmk4_4 := (Nat.ne_of_lt lak4_4).symm
  have lak4_6 := cell_lt k4_6
  have lbk4_6 := Nat.le_of_lt lak4_6
  have lck4_6 := lt1 (k := 1) lak4_6
  have ldk4_6 := lt1 (k := 1) lck4_6
  have lek4_6 := lt1 (k := 1) ldk4_6
  have lnk4_6 := Nat.ne_of_lt lak4_6
  have lmk4_6 := (Nat.ne_of_lt lak4_6).symm
  have lak4_8 := cell_lt k4_8
  have lbk4_8 := Nat.le_of_lt lak4_8
  have lck4_8 := lt1 (k := 1) lak4_8
  have ldk4_8 := lt1 (k := 1) lck4_8
  have lek4_8 := lt1 (k := 1) ldk4_8
  have lnk4_8 := Nat.ne_of_lt lak4_8
  have lmk4_8 := (Nat.ne_of_lt lak4_8).symm
  have lak4_10 := cell_lt k4_10
  have lbk4_10 := Nat.le_of_lt lak4_10
  have lck4_10 := lt1 (k := 1) lak4_10
  have ldk4_10 := lt1 (k := 1) lck4_10
  have lek4_10 := lt1 (k := 1) ldk4_10
  have lnk4_10 := Nat.ne_of_lt lak4_10
  have lmk4_10 := (Nat.ne_of_lt lak4_10).symm
  have E4 : Hid (Below w.heap.size w W4) := by
    refine hide (bc ?_ (unhide HB4))
    refine ba ?_ _
    refine Below.setCell (Below.setCell ?_ (le_bel (bc (ba (ba (ba (ba (Below.refl w.heap.size w) _) _) _) _) (unhide HB1)) (unhide HB2)) _) (le_bel (bc (ba (ba (ba (ba (Below.refl w.heap.size w) _) _) _) _) (unhide HB1)) (unhide HB2)) _
    refine bc ?_ (unhide HB3)
    refine ba ?_ _
    refine bc ?_ (unhide HB2)
    refine bc ?_ (unhide HB1)
    exact ba (ba (ba (ba (Below.refl _ _) _) _) _) _
  have le4 : w.heap.size ≤ W3.heap.size := by
    have := (unhide HB1).size
    have := (unhide HB2).size
    have := (unhide HB3).size
    simp at *
    omega
  clear HB1 HB2 HB3 HB4 z3
  go_wp2_with fail
  refine (unhide L5 _).mono ?_
  rintro e W5 ⟨rfl, hb⟩
  have k5_0 := keep1 hb (b := w.heap.size) (o := 0) (v := .int .i64 a1) (by simp (maxDischargeDepth := 12) [go_sem, le1, lt1, *])
  have k5_1 := keep1 hb (b := w.heap.size) (o := 1) (v := .int .i64 a2) (by simp (maxDischargeDepth := 12) [go_sem, le1, lt1, *])
  have k5_2 := keep1 hb (b := w.heap.size + 1) (o := 0) (v := .int .i64 b1) (by simp (maxDischargeDepth := 12) [go_sem, le1, lt1, *])
  have k5_3 := keep1 hb (b := w.heap.size + 1) (o := 1) (v := .int .i64 b2) (by simp (maxDischargeDepth := 12) [go_sem, le1, lt1, *])
  have k5_4 := keep1 hb (b := w.heap.size + 1 + 1) (o := 0) (v := .int .i64 c1) (by simp (maxDischargeDepth := 12) [go_sem, le1, lt1, *])
  have k5_5 := keep1 hb (b := w.heap.size + 1 + 1) (o := 1) (v := .int .i64 c2) (by simp (maxDischargeDepth := 12) [go_sem, le1, lt1, *])
  have k5_6 := keep1 hb (b := w.heap.size + 1 + 1 + 1) (o := 0) (v := .int .i64 d1) (by simp (maxDischargeDepth := 12) [go_sem, le1, lt1, *])
  have k5_7 := keep1 hb (b := w.heap.size + 1 + 1 + 1) (o := 1) (v := .int .i64 d2) (by simp (maxDischargeDepth := 12) [go_sem, le1, lt1, *])
  have k5_8 := keep1 hb (b := W2.heap.size) (o := 0) (v := .int .i64 c1) (by simp (maxDischargeDepth := 12) [go_sem, le1, lt1, *])
  have k5_9 := keep1 hb (b := W2.heap.size) (o := 1) (v := .int .i64 c2) (by simp (maxDischargeDepth := 12) [go_sem, le1, lt1, *])
  have HB5 := hide hb
  clear hb
  clear k4_0 k4_1 k4_2 k4_3 k4_4 k4_5 k4_6 k4_7 k4_8 k4_9 k4_10 k4_11 lak4_0 lbk4_0 lck4_0 ldk4_0 lek4_0 lak4_2 lbk4_2 lck4_2 ldk4_2 lek4_2 lak4_4 lbk4_4 lck4_4 ldk4_4 lek4_4 lak4_6 lbk4_6 lck4_6 ldk4_6 lek4_6 lak4_8 lbk4_8 lck4_8 ldk4_8 lek4_8 lak4_10 lbk4_10 lck4_10 ldk4_10 lek4_10
  have lak5_0 := cell_lt k5_0
  have lbk5_0 := Nat.le_of_lt lak5_0
  have lck5_0 := lt1 (k := 1) lak5_0
  have ldk5_0 := lt1 (k := 1) lck5_0
  have lek5_0 := lt1 (k := 1) ldk5_0
  have lnk5_0 := Nat.ne_of_lt lak5_0
  have lmk5_0 := (Nat.ne_of_lt lak5_0).symm
  have lak5_2 := cell_lt k5_2
  have lbk5_2 := Nat.le_of_lt lak5_2
  have lck5_2 := lt1 (k := 1) lak5_2
  have ldk5_2 := lt1 (k := 1) lck5_2
  have lek5_2 := lt1 (k := 1) ldk5_2
  have lnk5_2 := Nat.ne_of_lt lak5_2
  have lmk5_2 := (Nat.ne_of_lt lak5_2).symm
  have lak5_4 := cell_lt k5_4
  have lbk5_4 := Nat.le_of_lt lak5_4
  have lck5_4 := lt1 (k := 1) lak5_4
  have ldk5_4 := lt1 (k := 1) lck5_4
  have lek5_4 := lt1 (k := 1) ldk5_4
  have lnk5_4 := Nat.ne_of_lt lak5_4
  have lmk5_4 := (Nat.ne_of_lt lak5_4).symm
  have lak5_6 := cell_lt k5_6
  have lbk5_6 := Nat.le_of_lt lak5_6
  have lck5_6 := lt1 (k := 1) lak5_6
  have ldk5_6 := lt1 (k := 1) lck5_6
  have lek5_6 := lt1 (k := 1) ldk5_6
  have lnk5_6 := Nat.ne_of_lt lak5_6
  have lmk5_6 := (Nat.ne_of_lt lak5_6).symm
  have lak5_8 := cell_lt k5_8
  have lbk5_8 := Nat.le_of_lt lak5_8
  have lck5_8 := lt1 (k := 1) lak5_8
  have ldk5_8 := lt1 (k := 1) lck5_8
  have lek5_8 := lt1 (k := 1) ldk5_8
  have lnk5_8 := Nat.ne_of_lt lak5_8
  have lmk5_8 := (Nat.ne_of_lt lak5_8).symm
  go_wp2_with fail
  refine (unhide L6 _).mono ?_
  rintro e W6 ⟨rfl, hb⟩
  have k6_0 := keep1 hb (b := w.heap.size) (o := 0) (v := .int .i64 a1) (by simp (maxDischargeDepth := 12) [go_sem, le1, lt1, *])
  have k6_1 := keep1 hb (b := w.heap.size) (o := 1) (v := .int .i64 a2) (by simp (maxDischargeDepth := 12) [go_sem, le1, lt1, *])
  have k6_2 := keep1 hb (b := w.heap.size + 1) (o := 0) (v := .int .i64 b1) (by simp (maxDischargeDepth := 12) [go_sem, le1, lt1, *])
  have k6_3 := keep1 hb (b := w.heap.size + 1) (o := 1) (v := .int .i64 b2) (by simp (maxDischargeDepth := 12) [go_sem, le1, lt1, *])
  have k6_4 := keep1 hb (b := w.heap.size + 1 + 1) (o := 0) (v := .int .i64 c1) (by simp (maxDischargeDepth := 12) [go_sem, le1, lt1, *])
  have k6_5 := keep1 hb (b := w.heap.size + 1 + 1) (o := 1) (v := .int .i64 c2) (by simp (maxDischargeDepth := 12) [go_sem, le1, lt1, *])
  have k6_6 := keep1 hb (b := w.heap.size + 1 + 1 + 1) (o := 0) (v := .int .i64 d1) (by simp (maxDischargeDepth := 12) [go_sem, le1, lt1, *])
  have k6_7 := keep1 hb (b := w.heap.size + 1 + 1 + 1) (o := 1) (v := .int .i64 d2) (by simp (maxDischargeDepth := 12) [go_sem, le1, lt1, *])
  have k6_8 := keep1 hb (b := W2.heap.size) (o := 0) (v := .int .i64 c1) (by simp (maxDischargeDepth := 12) [go_sem, le1, lt1, *])
  have k6_9 := keep1 hb (b := W2.heap.size) (o := 1) (v := .int .i64 c2) (by simp (maxDischargeDepth := 12) [go_sem, le1, lt1, *])
  have HB6 := hide hb
  clear hb
  clear k5_0 k5_1 k5_2 k5_3 k5_4 k5_5 k5_6 k5_7 k5_8 k5_9 lak5_0 lbk5_0 lck5_0 ldk5_0 lek5_0 lak5_2 lbk5_2 lck5_2 ldk5_2 lek5_2 lak5_4 lbk5_4 lck5_4 ldk5_4 lek5_4 lak5_6 lbk5_6 lck5_6 ldk5_6 lek5_6 lak5_8 lbk5_8 lck5_8 ldk5_8 lek5_8
  have lak6_0 := cell_lt k6_0
  have lbk6_0 := Nat.le_of_lt lak6_0
  have lck6_0 := lt1 (k := 1) lak6_0
  have ldk6_0 := lt1 (k := 1) lck6_0
  have lek6_0 := lt1 (k := 1) ldk6_0
  have lnk6_0 := Nat.ne_of_lt lak6_0
  have lmk6_0 := (Nat.ne_of_lt lak6_0).symm
  have lak6_2 := cell_lt k6_2
  have lbk6_2 := Nat.le_of_lt lak6_2
  have lck6_2 := lt1 (k := 1) lak6_2
  have ldk6_2 := lt1 (k := 1) lck6_2
  have lek6_2 := lt1 (k := 1) ldk6_2
  have lnk6_2 := Nat.ne_of_lt lak6_2
  have lmk6_2 := (Nat.ne_of_lt lak6_2).symm
  have lak6_4 := cell_lt k6_4
  have lbk6_4 := Nat.le_of_lt lak6_4
  have lck6_4 := lt1 (k := 1) lak6_4
  have ldk6_4 := lt1 (k := 1) lck6_4
  have lek6_4 := lt1 (k := 1) ldk6_4
  have lnk6_4 := Nat.ne_of_lt lak6_4
  have lmk6_4 := (Nat.ne_of_lt lak6_4).symm
  have lak6_6 := cell_lt k6_6
  have lbk6_6 := Nat.le_of_lt lak6_6
  have lck6_6 := lt1 (k := 1) lak6_6
  have ldk6_6 := lt1 (k := 1) lck6_6
  have lek6_6 := lt1 (k := 1) ldk6_6
  have lnk6_6 := Nat.ne_of_lt lak6_6
  have lmk6_6 := (Nat.ne_of_lt lak6_6).symm
  have lak6_8 := cell_lt k6_8
  have lbk6_8 := Nat.le_of_lt lak6_8
  have lck6_8 := lt1 (k := 1) lak6_8
  have ldk6_8 := lt1 (k := 1) lck6_8
  have lek6_8 := lt1 (k := 1) ldk6_8
  have lnk6_8 := Nat.ne_of_lt lak6_8
  have lmk6_8 := (Nat.ne_of_lt lak6_8).symm
  have E6 := hide (bc (bc (Below.setCell (Below.setCell (unhide E4) le4 _) le4 _) (unhide HB5)) (unhide HB6))
  clear E4 HB5 HB6
  go_wp2_with fail
  refine (whole_ints _ _ _).mono ?_
  rintro e w' ⟨rfl, rfl⟩
  go_wp2_with fail
  go_ret
  exact ⟨⟨_, rfl, le1 (le1 (unhide E6).size), blk_at _ _ (by simp)⟩, ba (ba (ba (unhide E6) _) _) _⟩
end Go.Proofs.Ytimkinpbimangaa

namespace Go.Proofs.Ytimkinpbimangaa
open Go.ChangeShapes Go.WideShapes Go.ChangeAt Go.RowKit
set_option linter.unusedVariables false
set_option linter.unusedSimpArgs false

set_option maxRecDepth 100000 in
set_option maxHeartbeats 2000000 in
theorem alongM_lt_ab (a1 a2 b1 b2 c1 c2 d1 d2 : Int) (w : World)
    (L1 : Hid (∀ W, Calls Try.prog 91 #[.agg #[.int .i64 b1, .int .i64 b2], .agg #[.int .i64 a1, .int .i64 a2]] W fun e w' => e = .returned (.bool false) ∧ Below W.heap.size W w'))
    (L2 : Hid (∀ W, Calls Try.prog 91 #[.agg #[.int .i64 d1, .int .i64 d2], .agg #[.int .i64 c1, .int .i64 c2]] W fun e w' => e = .returned (.bool false) ∧ Below W.heap.size W w'))
    (L3 : Hid (∀ W, Calls Try.prog 91 #[.agg #[.int .i64 a1, .int .i64 a2], .agg #[.int .i64 c1, .int .i64 c2]] W fun e w' => e = .returned (.bool false) ∧ Below W.heap.size W w'))
    (L4 : Hid (∀ W, Calls Try.prog 91 #[.agg #[.int .i64 d1, .int .i64 d2], .agg #[.int .i64 b1, .int .i64 b2]] W fun e w' => e = .returned (.bool false) ∧ Below W.heap.size W w'))
    (qq : (a1 == b1) = false ∨ (a1 == b1) = true ∧ (a2 == b2) = false)
    (L5 : Hid (∀ W, Calls Try.prog 91 #[.agg #[.int .i64 a1, .int .i64 a2], .agg #[.int .i64 b1, .int .i64 b2]] W fun e w' => e = .returned (.bool true) ∧ Below W.heap.size W w')) :
    Calls Try.prog 77 #[.agg #[.int .i64 a1, .int .i64 a2], .agg #[.int .i64 b1, .int .i64 b2], .agg #[.int .i64 c1, .int .i64 c2], .agg #[.int .i64 d1, .int .i64 d2]] w fun e w' => (∃ k, e = .returned (.slice (some ⟨k, 0, none⟩) 2 2) ∧ w.heap.size ≤ k ∧ w'.heap[k]? = some (.cells #[.int .i64 a1, .int .i64 a2, .int .i64 1, .int .i64 b1, .int .i64 b2, .int .i64 1] 93 (0, 0))) ∧ Below w.heap.size w w' := by
  rcases qq with q1 | ⟨q1, q2⟩
  all_goals
    go_enter Try.func77, Try.ntmps77
    go_wp2_with fail
    refine (unhide L1 _).mono ?_
    rintro e W1 ⟨rfl, hb⟩
    have k1_0 := keep1 hb (b := w.heap.size) (o := 0) (v := .int .i64 a1) (by simp (maxDischargeDepth := 12) [go_sem, le1, lt1, *])
    have k1_1 := keep1 hb (b := w.heap.size) (o := 1) (v := .int .i64 a2) (by simp (maxDischargeDepth := 12) [go_sem, le1, lt1, *])
    have k1_2 := keep1 hb (b := w.heap.size + 1) (o := 0) (v := .int .i64 b1) (by simp (maxDischargeDepth := 12) [go_sem, le1, lt1, *])
    have k1_3 := keep1 hb (b := w.heap.size + 1) (o := 1) (v := .int .i64 b2) (by simp (maxDischargeDepth := 12) [go_sem, le1, lt1, *])
    have k1_4 := keep1 hb (b := w.heap.size + 1 + 1) (o := 0) (v := .int .i64 c1) (by simp (maxDischargeDepth := 12) [go_sem, le1, lt1, *])
    have k1_5 := keep1 hb (b := w.heap.size + 1 + 1) (o := 1) (v := .int .i64 c2) (by simp (maxDischargeDepth := 12) [go_sem, le1, lt1, *])
    have k1_6 := keep1 hb (b := w.heap.size + 1 + 1 + 1) (o := 0) (v := .int .i64 d1) (by simp (maxDischargeDepth := 12) [go_sem, le1, lt1, *])
    have k1_7 := keep1 hb (b := w.heap.size + 1 + 1 + 1) (o := 1) (v := .int .i64 d2) (by simp (maxDischargeDepth := 12) [go_sem, le1, lt1, *])
    have HB1 := hide hb
    clear hb
    have lak1_0 := cell_lt k1_0
    have lbk1_0 := Nat.le_of_lt lak1_0
    have lck1_0 := lt1 (k := 1) lak1_0
    have ldk1_0 := lt1 (k := 1) lck1_0
    have lek1_0 := lt1 (k := 1) ldk1_0
    have lnk1_0 := Nat.ne_of_lt lak1_0
    have lmk1_0 := (Nat.ne_of_lt lak1_0).symm
    have lak1_2 := cell_lt k1_2
    have lbk1_2 := Nat.le_of_lt lak1_2
    have lck1_2 := lt1 (k := 1) lak1_2
    have ldk1_2 := lt1 (k := 1) lck1_2
    have lek1_2 := lt1 (k := 1) ldk1_2
    have lnk1_2 := Nat.ne_of_lt lak1_2
    have lmk1_2 := (Nat.ne_of_lt lak1_2).symm
    have lak1_4 := cell_lt k1_4
    have lbk1_4 := Nat.le_of_lt lak1_4
    have lck1_4 := lt1 (k := 1) lak1_4
    have ldk1_4 := lt1 (k := 1) lck1_4
    have lek1_4 := lt1 (k := 1) ldk1_4
    have lnk1_4 := Nat.ne_of_lt lak1_4
    have lmk1_4 := (Nat.ne_of_lt lak1_4).symm
    have lak1_6 := cell_lt k1_6
    have lbk1_6 := Nat.le_of_lt lak1_6
    have lck1_6 := lt1 (k := 1) lak1_6
    have ldk1_6 := lt1 (k := 1) lck1_6
    have lek1_6 := lt1 (k := 1) ldk1_6
    have lnk1_6 := Nat.ne_of_lt lak1_6
    have lmk1_6 := (Nat.ne_of_lt lak1_6).symm
    go_wp2_with fail
    refine (unhide L2 _).mono ?_
    rintro e W2 ⟨rfl, hb⟩
    have k2_0 := keep1 hb (b := w.heap.size) (o := 0) (v := .int .i64 a1) (by simp (maxDischargeDepth := 12) [go_sem, le1, lt1, *])
    have k2_1 := keep1 hb (b := w.heap.size) (o := 1) (v := .int .i64 a2) (by simp (maxDischargeDepth := 12) [go_sem, le1, lt1, *])
    have k2_2 := keep1 hb (b := w.heap.size + 1) (o := 0) (v := .int .i64 b1) (by simp (maxDischargeDepth := 12) [go_sem, le1, lt1, *])
    have k2_3 := keep1 hb (b := w.heap.size + 1) (o := 1) (v := .int .i64 b2) (by simp (maxDischargeDepth := 12) [go_sem, le1, lt1, *])
    have k2_4 := keep1 hb (b := w.heap.size + 1 + 1) (o := 0) (v := .int .i64 c1) (by simp (maxDischargeDepth := 12) [go_sem, le1, lt1, *])
    have k2_5 := keep1 hb (b := w.heap.size + 1 + 1) (o := 1) (v := .int .i64 c2) (by simp (maxDischargeDepth := 12) [go_sem, le1, lt1, *])
    have k2_6 := keep1 hb (b := w.heap.size + 1 + 1 + 1) (o := 0) (v := .int .i64 d1) (by simp (maxDischargeDepth := 12) [go_sem, le1, lt1, *])
    have k2_7 := keep1 hb (b := w.heap.size + 1 + 1 + 1) (o := 1) (v := .int .i64 d2) (by simp (maxDischargeDepth := 12) [go_sem, le1, lt1, *])
    have HB2 := hide hb
    clear hb
    clear k1_0 k1_1 k1_2 k1_3 k1_4 k1_5 k1_6 k1_7 lak1_0 lbk1_0 lck1_0 ldk1_0 lek1_0 lak1_2 lbk1_2 lck1_2 ldk1_2 lek1_2 lak1_4 lbk1_4 lck1_4 ldk1_4 lek1_4 lak1_6 lbk1_6 lck1_6 ldk1_6 lek1_6
    have lak2_0 := cell_lt k2_0
    have lbk2_0 := Nat.le_of_lt lak2_0
    have lck2_0 := lt1 (k := 1) lak2_0
    have ldk2_0 := lt1 (k := 1) lck2_0
    have lek2_0 := lt1 (k := 1) ldk2_0
    have lnk2_0 := Nat.ne_of_lt lak2_0
    have lmk2_0 := (Nat.ne_of_lt lak2_0).symm
    have lak2_2 := cell_lt k2_2
    have lbk2_2 := Nat.le_of_lt lak2_2
    have lck2_2 := lt1 (k := 1) lak2_2
    have ldk2_2 := lt1 (k := 1) lck2_2
    have lek2_2 := lt1 (k := 1) ldk2_2
    have lnk2_2 := Nat.ne_of_lt lak2_2
    have lmk2_2 := (Nat.ne_of_lt lak2_2).symm
    have lak2_4 := cell_lt k2_4
    have lbk2_4 := Nat.le_of_lt lak2_4
    have lck2_4 := lt1 (k := 1) lak2_4
    have ldk2_4 := lt1 (k := 1) lck2_4
    have lek2_4 := lt1 (k := 1) ldk2_4
    have lnk2_4 := Nat.ne_of_lt lak2_4
    have lmk2_4 := (Nat.ne_of_lt lak2_4).symm
    have lak2_6 := cell_lt k2_6
    have lbk2_6 := Nat.le_of_lt lak2_6
    have lck2_6 := lt1 (k := 1) lak2_6
    have ldk2_6 := lt1 (k := 1) lck2_6
    have lek2_6 := lt1 (k := 1) ldk2_6
    have lnk2_6 := Nat.ne_of_lt lak2_6
    have lmk2_6 := (Nat.ne_of_lt lak2_6).symm
    go_wp2_with fail
    refine (unhide L3 _).mono ?_
    rintro e W3 ⟨rfl, hb⟩
    have k3_0 := keep1 hb (b := w.heap.size) (o := 0) (v := .int .i64 a1) (by simp (maxDischargeDepth := 12) [go_sem, le1, lt1, *])
    have k3_1 := keep1 hb (b := w.heap.size) (o := 1) (v := .int .i64 a2) (by simp (maxDischargeDepth := 12) [go_sem, le1, lt1, *])
    have k3_2 := keep1 hb (b := w.heap.size + 1) (o := 0) (v := .int .i64 b1) (by simp (maxDischargeDepth := 12) [go_sem, le1, lt1, *])
    have k3_3 := keep1 hb (b := w.heap.size + 1) (o := 1) (v := .int .i64 b2) (by simp (maxDischargeDepth := 12) [go_sem, le1, lt1, *])
    have k3_4 := keep1 hb (b := w.heap.size + 1 + 1) (o := 0) (v := .int .i64 c1) (by simp (maxDischargeDepth := 12) [go_sem, le1, lt1, *])
    have k3_5 := keep1 hb (b := w.heap.size + 1 + 1) (o := 1) (v := .int .i64 c2) (by simp (maxDischargeDepth := 12) [go_sem, le1, lt1, *])
    have k3_6 := keep1 hb (b := w.heap.size + 1 + 1 + 1) (o := 0) (v := .int .i64 d1) (by simp (maxDischargeDepth := 12) [go_sem, le1, lt1, *])
    have k3_7 := keep1 hb (b := w.heap.size + 1 + 1 + 1) (o := 1) (v := .int .i64 d2) (by simp (maxDischargeDepth := 12) [go_sem, le1, lt1, *])
    have k3_8 := keep1 hb (b := W2.heap.size) (o := 0) (v := .int .i64 a1) (by simp (maxDischargeDepth := 12) [go_sem, le1, lt1, *])
    have k3_9 := keep1 hb (b := W2.heap.size) (o := 1) (v := .int .i64 a2) (by simp (maxDischargeDepth := 12) [go_sem, le1, lt1, *])
    have z3 := fun o => keepz hb (b := W2.heap.size) (o := o) (by simp) (by simp (maxDischargeDepth := 12) [go_sem, le1, lt1, *])
    have HB3 := hide hb
    clear hb
    clear k2_0 k2_1 k2_2 k2_3 k2_4 k2_5 k2_6 k2_7 lak2_0 lbk2_0 lck2_0 ldk2_0 lek2_0 lak2_2 lbk2_2 lck2_2 ldk2_2 lek2_2 lak2_4 lbk2_4 lck2_4 ldk2_4 lek2_4 lak2_6 lbk2_6 lck2_6 ldk2_6 lek2_6
    have lak3_0 := cell_lt k3_0
    have lbk3_0 := Nat.le_of_lt lak3_0
    have lck3_0 := lt1 (k := 1) lak3_0
    have ldk3_0 := lt1 (k := 1) lck3_0
    have lek3_0 := lt1 (k := 1) ldk3_0
    have lnk3_0 := Nat.ne_of_lt lak3_0
    have lmk3_0 := (Nat.ne_of_lt lak3_0).symm
    have lak3_2 := cell_lt k3_2
    have lbk3_2 := Nat.le_of_lt lak3_2
    have lck3_2 := lt1 (k := 1) lak3_2
    have ldk3_2 := lt1 (k := 1) lck3_2
    have lek3_2 := lt1 (k := 1) ldk3_2
    have lnk3_2 := Nat.ne_of_lt lak3_2
    have lmk3_2 := (Nat.ne_of_lt lak3_2).symm
    have lak3_4 := cell_lt k3_4
    have lbk3_4 := Nat.le_of_lt lak3_4
    have lck3_4 := lt1 (k := 1) lak3_4
    have ldk3_4 := lt1 (k := 1) lck3_4
    have lek3_4 := lt1 (k := 1) ldk3_4
    have lnk3_4 := Nat.ne_of_lt lak3_4
    have lmk3_4 := (Nat.ne_of_lt lak3_4).symm
    have lak3_6 := cell_lt k3_6
    have lbk3_6 := Nat.le_of_lt lak3_6
    have lck3_6 := lt1 (k := 1) lak3_6
    have ldk3_6 := lt1 (k := 1) lck3_6
    have lek3_6 := lt1 (k := 1) ldk3_6
    have lnk3_6 := Nat.ne_of_lt lak3_6
    have lmk3_6 := (Nat.ne_of_lt lak3_6).symm
    have lak3_8 := cell_lt k3_8
    have lbk3_8 := Nat.le_of_lt lak3_8
    have lck3_8 := lt1 (k := 1) lak3_8
    have ldk3_8 := lt1 (k := 1) lck3_8
    have lek3_8 := lt1 (k := 1) ldk3_8
    have lnk3_8 := Nat.ne_of_lt lak3_8
    have lmk3_8 := (Nat.ne_of_lt lak3_8).symm
    go_wp2_with fail
    refine (unhide L4 _).mono ?_
    rintro e W4 ⟨rfl, hb⟩
    have k4_0 := keep1 hb (b := w.heap.size) (o := 0) (v := .int .i64 a1) (by simp (maxDischargeDepth := 12) [go_sem, le1, lt1, *])
    have k4_1 := keep1 hb (b := w.heap.size) (o := 1) (v := .int .i64 a2) (by simp (maxDischargeDepth := 12) [go_sem, le1, lt1, *])
    have k4_2 := keep1 hb (b := w.heap.size + 1) (o := 0) (v := .int .i64 b1) (by simp (maxDischargeDepth := 12) [go_sem, le1, lt1, *])
    have k4_3 := keep1 hb (b := w.heap.size + 1) (o := 1) (v := .int .i64 b2) (by simp (maxDischargeDepth := 12) [go_sem, le1, lt1, *])
    have k4_4 := keep1 hb (b := w.heap.size + 1 + 1) (o := 0) (v := .int .i64 c1) (by simp (maxDischargeDepth := 12) [go_sem, le1, lt1, *])
    have k4_5 := keep1 hb (b := w.heap.size + 1 + 1) (o := 1) (v := .int .i64 c2) (by simp (maxDischargeDepth := 12) [go_sem, le1, lt1, *])
    have k4_6 := keep1 hb (b := w.heap.size + 1 + 1 + 1) (o := 0) (v := .int .i64 d1) (by simp (maxDischargeDepth := 12) [go_sem, le1, lt1, *])
    have k4_7 := keep1 hb (b := w.heap.size + 1 + 1 + 1) (o := 1) (v := .int .i64 d2) (by simp (maxDischargeDepth := 12) [go_sem, le1, lt1, *])
    have k4_8 := keep1 hb (b := W2.heap.size) (o := 0) (v := .int .i64 a1) (by simp (maxDischargeDepth := 12) [go_sem, le1, lt1, *])
    have k4_9 := keep1 hb (b := W2.heap.size) (o := 1) (v := .int .i64 a2) (by simp (maxDischargeDepth := 12) [go_sem, le1, lt1, *])
    have k4_10 := keep1 hb (b := W3.heap.size) (o := 0) (v := .int .i64 b1) (by simp (maxDischargeDepth := 12) [go_sem, le1, lt1, *])
    have k4_11 := keep1 hb (b := W3.heap.size) (o := 1) (v := .int .i64 b2) (by simp (maxDischargeDepth := 12) [go_sem, le1, lt1, *])
    have z4 := fun o => keepz hb (b := W3.heap.size) (o := o) (by simp) (by simp (maxDischargeDepth := 12) [go_sem, le1, lt1, *])
    have HB4 := hide hb
    clear hb
    clear k3_0 k3_1 k3_2 k3_3 k3_4 k3_5 k3_6 k3_7 k3_8 k3_9 lak3_0 lbk3_0 lck3_0 ldk3_0 lek3_0 lak3_2 lbk3_2 lck3_2 ldk3_2 lek3_2 lak3_4 lbk3_4 lck3_4 ldk3_4 lek3_4 lak3_6 lbk3_6 lck3_6 ldk3_6 lek3_6 lak3_8 lbk3_8 lck3_8 ldk3_8 lek3_8
    have lak4_0 := cell_lt k4_0
    have lbk4_0 := Nat.le_of_lt lak4_0
    have lck4_0 := lt1 (k := 1) lak4_0
    have ldk4_0 := lt1 (k := 1) lck4_0
    have lek4_0 := lt1 (k := 1) ldk4_0
    have lnk4_0 := Nat.ne_of_lt lak4_0
    have lmk4_0 := (Nat.ne_of_lt lak4_0).symm
    have lak4_2 := cell_lt k4_2
    have lbk4_2 := Nat.le_of_lt lak4_2
    have lck4_2 := lt1 (k := 1) lak4_2
    have ldk4_2 := lt1 (k := 1) lck4_2
    have lek4_2 := lt1 (k := 1) ldk4_2
    have lnk4_2 := Nat.ne_of_lt lak4_2
    have lmk4_2 := (Nat.ne_of_lt lak4_2).symm
    have lak4_4 := cell_lt k4_4
    have lbk4_4 := Nat.le_of_lt lak4_4
    have lck4_4 := lt1 (k := 1) lak4_4
    have ldk4_4 := lt1 (k := 1) lck4_4
    have lek4_4 := lt1 (k := 1) ldk4_4
    have lnk4_4 := Nat.ne_of_lt lak4_4
    have lmk4_4 := (Nat.ne_of_lt lak4_4).symm
    have lak4_6 := cell_lt k4_6
    have lbk4_6 := Nat.le_of_lt lak4_6
    have lck4_6 := lt1 (k := 1) lak4_6
    have ldk4_6 := lt1 (k := 1) lck4_6
    have lek4_6 := lt1 (k := 1) ldk4_6
    have lnk4_6 := Nat.ne_of_lt lak4_6
    have lmk4_6 := (Nat.ne_of_lt lak4_6).symm
    have lak4_8 := cell_lt k4_8
    have lbk4_8 := Nat.le_of_lt lak4_8
    have lck4_8 := lt1 (k := 1) lak4_8
    have ldk4_8 := lt1 (k := 1) lck4_8
    have lek4_8 := lt1 (k := 1) ldk4_8
    have lnk4_8 := Nat.ne_of_lt lak4_8
    have lmk4_8 := (Nat.ne_of_lt lak4_8).symm
    have lak4_10 := cell_lt k4_10
    have lbk4_10 := Nat.le_of_lt lak4_10
    have lck4_10 := lt1 (k := 1) lak4_10
    have ldk4_10 := lt1 (k := 1) lck4_10
    have lek4_10 := lt1 (k := 1) ldk4_10
    have lnk4_10 := Nat.ne_of_lt lak4_10
    have lmk4_10 := (Nat.ne_of_lt lak4_10).symm
    have E4 : Hid (Below w.heap.size w W4) := by
      refine hide (bc ?_ (unhide HB4))
      refine ba ?_ _
      refine bc ?_ (unhide HB3)
      refine ba ?_ _
      refine bc ?_ (unhide HB2)
      refine bc ?_ (unhide HB1)
      exact ba (ba (ba (ba (Below.refl _ _) _) _) _) _
    have le4 : w.heap.size ≤ W3.heap.size := by
      have := (unhide HB1).size
      have := (unhide HB2).size
      have := (unhide HB3).size
      simp at *
      omega
    clear HB1 HB2 HB3 HB4 z3
    go_wp2_with fail
    refine (unhide L5 _).mono ?_
    rintro e W5 ⟨rfl, hb⟩
    have k5_0 := keep1 hb (b := W2.heap.size) (o := 0) (v := .int .i64 a1) (by simp (maxDischargeDepth := 12) [go_sem, le1, lt1, *])
    have k5_1 := keep1 hb (b := W2.heap.size) (o := 1) (v := .int .i64 a2) (by simp (maxDischargeDepth := 12) [go_sem, le1, lt1, *])
    have k5_2 := keep1 hb (b := W3.heap.size) (o := 0) (v := .int .i64 b1) (by simp (maxDischargeDepth := 12) [go_sem, le1, lt1, *])
    have k5_3 := keep1 hb (b := W3.heap.size) (o := 1) (v := .int .i64 b2) (by simp (maxDischargeDepth := 12) [go_sem, le1, lt1, *])
    have HB5 := hide hb
    clear hb
    clear k4_0 k4_1 k4_2 k4_3 k4_4 k4_5 k4_6 k4_7 k4_8 k4_9 k4_10 k4_11 lak4_0 lbk4_0 lck4_0 ldk4_0 lek4_0 lak4_2 lbk4_2 lck4_2 ldk4_2 lek4_2 lak4_4 lbk4_4 lck4_4 ldk4_4 lek4_4 lak4_6 lbk4_6 lck4_6 ldk4_6 lek4_6 lak4_8 lbk4_8 lck4_8 ldk4_8 lek4_8 lak4_10 lbk4_10 lck4_10 ldk4_10 lek4_10
    have lak5_0 := cell_lt k5_0
    have lbk5_0 := Nat.le_of_lt lak5_0
    have lck5_0 := lt1 (k := 1) lak5_0
    have ldk5_0 := lt1 (k := 1) lck5_0
    have lek5_0 := lt1 (k := 1) ldk5_0
    have lnk5_0 := Nat.ne_of_lt lak5_0
    have lmk5_0 := (Nat.ne_of_lt lak5_0).symm
    have lak5_2 := cell_lt k5_2
    have lbk5_2 := Nat.le_of_lt lak5_2
    have lck5_2 := lt1 (k := 1) lak5_2
    have ldk5_2 := lt1 (k := 1) lck5_2
    have lek5_2 := lt1 (k := 1) ldk5_2
    have lnk5_2 := Nat.ne_of_lt lak5_2
    have lmk5_2 := (Nat.ne_of_lt lak5_2).symm
    have E6 := hide (bc (unhide E4) (unhide HB5))
    clear E4 HB5
    go_wp2_with fail
    go_region_held3 (fun wx => wx.cell? ⟨W2.heap.size, 0, none⟩ = some (.int .i64 a1) ∧ wx.cell? ⟨W2.heap.size, 1, none⟩ = some (.int .i64 a2) ∧ wx.cell? ⟨W3.heap.size, 0, none⟩ = some (.int .i64 b1) ∧ wx.cell? ⟨W3.heap.size, 1, none⟩ = some (.int .i64 b2))
      (simp (maxDischargeDepth := 12) [go_sem, le1, lt1, *])
      (first
      | (go_at_call 80; refine (whole_ints _ _ _).mono ?_; rintro e w' ⟨rfl, rfl⟩))
    all_goals
      go_wp2_with fail
      go_ret
      refine ⟨⟨_, rfl, ?_, blk_at _ _ (by simp [World.drew])⟩, ?_⟩
      · repeat (first | exact (unhide E6).size | refine le1 ?_)
      · repeat (first | exact unhide E6 | refine ba ?_ _ | refine Below.drew ?_)

set_option maxRecDepth 100000 in
set_option maxHeartbeats 2000000 in
theorem alongM_lt_ad (a1 a2 b1 b2 c1 c2 d1 d2 : Int) (w : World)
    (L1 : Hid (∀ W, Calls Try.prog 91 #[.agg #[.int .i64 b1, .int .i64 b2], .agg #[.int .i64 a1, .int .i64 a2]] W fun e w' => e = .returned (.bool false) ∧ Below W.heap.size W w'))
    (L2 : Hid (∀ W, Calls Try.prog 91 #[.agg #[.int .i64 d1, .int .i64 d2], .agg #[.int .i64 c1, .int .i64 c2]] W fun e w' => e = .returned (.bool false) ∧ Below W.heap.size W w'))
    (L3 : Hid (∀ W, Calls Try.prog 91 #[.agg #[.int .i64 a1, .int .i64 a2], .agg #[.int .i64 c1, .int .i64 c2]] W fun e w' => e = .returned (.bool false) ∧ Below W.heap.size W w'))
    (L4 : Hid (∀ W, Calls Try.prog 91 #[.agg #[.int .i64 d1, .int .i64 d2], .agg #[.int .i64 b1, .int .i64 b2]] W fun e w' => e = .returned (.bool true) ∧ Below W.heap.size W w'))
    (qq : (a1 == d1) = false ∨ (a1 == d1) = true ∧ (a2 == d2) = false)
    (L5 : Hid (∀ W, Calls Try.prog 91 #[.agg #[.int .i64 a1, .int .i64 a2], .agg #[.int .i64 d1, .int .i64 d2]] W fun e w' => e = .returned (.bool true) ∧ Below W.heap.size W w')) :
    Calls Try.prog 77 #[.agg #[.int .i64 a1, .int .i64 a2], .agg #[.int .i64 b1, .int .i64 b2], .agg #[.int .i64 c1, .int .i64 c2], .agg #[.int .i64 d1, .int .i64 d2]] w fun e w' => (∃ k, e = .returned (.slice (some ⟨k, 0, none⟩) 2 2) ∧ w.heap.size ≤ k ∧ w'.heap[k]? = some (.cells #[.int .i64 a1, .int .i64 a2, .int .i64 1, .int .i64 d1, .int .i64 d2, .int .i64 1] 93 (0, 0))) ∧ Below w.heap.size w w' := by
  rcases qq with q1 | ⟨q1, q2⟩
  all_goals
    go_enter Try.func77, Try.ntmps77
    go_wp2_with fail
    refine (unhide L1 _).mono ?_
    rintro e W1 ⟨rfl, hb⟩
    have k1_0 := keep1 hb (b := w.heap.size) (o := 0) (v := .int .i64 a1) (by simp (maxDischargeDepth := 12) [go_sem, le1, lt1, *])
    have k1_1 := keep1 hb (b := w.heap.size) (o := 1) (v := .int .i64 a2) (by simp (maxDischargeDepth := 12) [go_sem, le1, lt1, *])
    have k1_2 := keep1 hb (b := w.heap.size + 1) (o := 0) (v := .int .i64 b1) (by simp (maxDischargeDepth := 12) [go_sem, le1, lt1, *])
    have k1_3 := keep1 hb (b := w.heap.size + 1) (o := 1) (v := .int .i64 b2) (by simp (maxDischargeDepth := 12) [go_sem, le1, lt1, *])
    have k1_4 := keep1 hb (b := w.heap.size + 1 + 1) (o := 0) (v := .int .i64 c1) (by simp (maxDischargeDepth := 12) [go_sem, le1, lt1, *])
    have k1_5 := keep1 hb (b := w.heap.size + 1 + 1) (o := 1) (v := .int .i64 c2) (by simp (maxDischargeDepth := 12) [go_sem, le1, lt1, *])
    have k1_6 := keep1 hb (b := w.heap.size + 1 + 1 + 1) (o := 0) (v := .int .i64 d1) (by simp (maxDischargeDepth := 12) [go_sem, le1, lt1, *])
    have k1_7 := keep1 hb (b := w.heap.size + 1 + 1 + 1) (o := 1) (v := .int .i64 d2) (by simp (maxDischargeDepth := 12) [go_sem, le1, lt1, *])
    have HB1 := hide hb
    clear hb
    have lak1_0 := cell_lt k1_0
    have lbk1_0 := Nat.le_of_lt lak1_0
    have lck1_0 := lt1 (k := 1) lak1_0
    have ldk1_0 := lt1 (k := 1) lck1_0
    have lek1_0 := lt1 (k := 1) ldk1_0
    have lnk1_0 := Nat.ne_of_lt lak1_0
    have lmk1_0 := (Nat.ne_of_lt lak1_0).symm
    have lak1_2 := cell_lt k1_2
    have lbk1_2 := Nat.le_of_lt lak1_2
    have lck1_2 := lt1 (k := 1) lak1_2
    have ldk1_2 := lt1 (k := 1) lck1_2
    have lek1_2 := lt1 (k := 1) ldk1_2
    have lnk1_2 := Nat.ne_of_lt lak1_2
    have lmk1_2 := (Nat.ne_of_lt lak1_2).symm
    have lak1_4 := cell_lt k1_4
    have lbk1_4 := Nat.le_of_lt lak1_4
    have lck1_4 := lt1 (k := 1) lak1_4
    have ldk1_4 := lt1 (k := 1) lck1_4
    have lek1_4 := lt1 (k := 1) ldk1_4
    have lnk1_4 := Nat.ne_of_lt lak1_4
    have lmk1_4 := (Nat.ne_of_lt lak1_4).symm
    have lak1_6 := cell_lt k1_6
    have lbk1_6 := Nat.le_of_lt lak1_6
    have lck1_6 := lt1 (k := 1) lak1_6
    have ldk1_6 := lt1 (k := 1) lck1_6
    have lek1_6 := lt1 (k := 1) ldk1_6
    have lnk1_6 := Nat.ne_of_lt lak1_6
    have lmk1_6 := (Nat.ne_of_lt lak1_6).symm
    go_wp2_with fail
    refine (unhide L2 _).mono ?_
    rintro e W2 ⟨rfl, hb⟩
    have k2_0 := keep1 hb (b := w.heap.size) (o := 0) (v := .int .i64 a1) (by simp (maxDischargeDepth := 12) [go_sem, le1, lt1, *])
    have k2_1 := keep1 hb (b := w.heap.size) (o := 1) (v := .int .i64 a2) (by simp (maxDischargeDepth := 12) [go_sem, le1, lt1, *])
    have k2_2 := keep1 hb (b := w.heap.size + 1) (o := 0) (v := .int .i64 b1) (by simp (maxDischargeDepth := 12) [go_sem, le1, lt1, *])
    have k2_3 := keep1 hb (b := w.heap.size + 1) (o := 1) (v := .int .i64 b2) (by simp (maxDischargeDepth := 12) [go_sem, le1, lt1, *])
    have k2_4 := keep1 hb (b := w.heap.size + 1 + 1) (o := 0) (v := .int .i64 c1) (by simp (maxDischargeDepth := 12) [go_sem, le1, lt1, *])
    have k2_5 := keep1 hb (b := w.heap.size + 1 + 1) (o := 1) (v := .int .i64 c2) (by simp (maxDischargeDepth := 12) [go_sem, le1, lt1, *])
    have k2_6 := keep1 hb (b := w.heap.size + 1 + 1 + 1) (o := 0) (v := .int .i64 d1) (by simp (maxDischargeDepth := 12) [go_sem, le1, lt1, *])
    have k2_7 := keep1 hb (b := w.heap.size + 1 + 1 + 1) (o := 1) (v := .int .i64 d2) (by simp (maxDischargeDepth := 12) [go_sem, le1, lt1, *])
    have HB2 := hide hb
    clear hb
    clear k1_0 k1_1 k1_2 k1_3 k1_4 k1_5 k1_6 k1_7 lak1_0 lbk1_0 lck1_0 ldk1_0 lek1_0 lak1_2 lbk1_2 lck1_2 ldk1_2 lek1_2 lak1_4 lbk1_4 lck1_4 ldk1_4 lek1_4 lak1_6 lbk1_6 lck1_6 ldk1_6 lek1_6
    have lak2_0 := cell_lt k2_0
    have lbk2_0 := Nat.le_of_lt lak2_0
    have lck2_0 := lt1 (k := 1) lak2_0
    have ldk2_0 := lt1 (k := 1) lck2_0
    have lek2_0 := lt1 (k := 1) ldk2_0
    have lnk2_0 := Nat.ne_of_lt lak2_0
    have lmk2_0 := (Nat.ne_of_lt lak2_0).symm
    have lak2_2 := cell_lt k2_2
    have lbk2_2 := Nat.le_of_lt lak2_2
    have lck2_2 := lt1 (k := 1) lak2_2
    have ldk2_2 := lt1 (k := 1) lck2_2
    have lek2_2 := lt1 (k := 1) ldk2_2
    have lnk2_2 := Nat.ne_of_lt lak2_2
    have lmk2_2 := (Nat.ne_of_lt lak2_2).symm
    have lak2_4 := cell_lt k2_4
    have lbk2_4 := Nat.le_of_lt lak2_4
    have lck2_4 := lt1 (k := 1) lak2_4
    have ldk2_4 := lt1 (k := 1) lck2_4
    have lek2_4 := lt1 (k := 1) ldk2_4
    have lnk2_4 := Nat.ne_of_lt lak2_4
    have lmk2_4 := (Nat.ne_of_lt lak2_4).symm
    have lak2_6 := cell_lt k2_6
    have lbk2_6 := Nat.le_of_lt lak2_6
    have lck2_6 := lt1 (k := 1) lak2_6
    have ldk2_6 := lt1 (k := 1) lck2_6
    have lek2_6 := lt1 (k := 1) ldk2_6
    have lnk2_6 := Nat.ne_of_lt lak2_6
    have lmk2_6 := (Nat.ne_of_lt lak2_6).symm
    go_wp2_with fail
    refine (unhide L3 _).mono ?_
    rintro e W3 ⟨rfl, hb⟩
    have k3_0 := keep1 hb (b := w.heap.size) (o := 0) (v := .int .i64 a1) (by simp (maxDischargeDepth := 12) [go_sem, le1, lt1, *])
    have k3_1 := keep1 hb (b := w.heap.size) (o := 1) (v := .int .i64 a2) (by simp (maxDischargeDepth := 12) [go_sem, le1, lt1, *])
    have k3_2 := keep1 hb (b := w.heap.size + 1) (o := 0) (v := .int .i64 b1) (by simp (maxDischargeDepth := 12) [go_sem, le1, lt1, *])
    have k3_3 := keep1 hb (b := w.heap.size + 1) (o := 1) (v := .int .i64 b2) (by simp (maxDischargeDepth := 12) [go_sem, le1, lt1, *])
    have k3_4 := keep1 hb (b := w.heap.size + 1 + 1) (o := 0) (v := .int .i64 c1) (by simp (maxDischargeDepth := 12) [go_sem, le1, lt1, *])
    have k3_5 := keep1 hb (b := w.heap.size + 1 + 1) (o := 1) (v := .int .i64 c2) (by simp (maxDischargeDepth := 12) [go_sem, le1, lt1, *])
    have k3_6 := keep1 hb (b := w.heap.size + 1 + 1 + 1) (o := 0) (v := .int .i64 d1) (by simp (maxDischargeDepth := 12) [go_sem, le1, lt1, *])
    have k3_7 := keep1 hb (b := w.heap.size + 1 + 1 + 1) (o := 1) (v := .int .i64 d2) (by simp (maxDischargeDepth := 12) [go_sem, le1, lt1, *])
    have k3_8 := keep1 hb (b := W2.heap.size) (o := 0) (v := .int .i64 a1) (by simp (maxDischargeDepth := 12) [go_sem, le1, lt1, *])
    have k3_9 := keep1 hb (b := W2.heap.size) (o := 1) (v := .int .i64 a2) (by simp (maxDischargeDepth := 12) [go_sem, le1, lt1, *])
    have z3 := fun o => keepz hb (b := W2.heap.size) (o := o) (by simp) (by simp (maxDischargeDepth := 12) [go_sem, le1, lt1, *])
    have HB3 := hide hb
    clear hb
    clear k2_0 k2_1 k2_2 k2_3 k2_4 k2_5 k2_6 k2_7 lak2_0 lbk2_0 lck2_0 ldk2_0 lek2_0 lak2_2 lbk2_2 lck2_2 ldk2_2 lek2_2 lak2_4 lbk2_4 lck2_4 ldk2_4 lek2_4 lak2_6 lbk2_6 lck2_6 ldk2_6 lek2_6
    have lak3_0 := cell_lt k3_0
    have lbk3_0 := Nat.le_of_lt lak3_0
    have lck3_0 := lt1 (k := 1) lak3_0
    have ldk3_0 := lt1 (k := 1) lck3_0
    have lek3_0 := lt1 (k := 1) ldk3_0
    have lnk3_0 := Nat.ne_of_lt lak3_0
    have lmk3_0 := (Nat.ne_of_lt lak3_0).symm
    have lak3_2 := cell_lt k3_2
    have lbk3_2 := Nat.le_of_lt lak3_2
    have lck3_2 := lt1 (k := 1) lak3_2
    have ldk3_2 := lt1 (k := 1) lck3_2
    have lek3_2 := lt1 (k := 1) ldk3_2
    have lnk3_2 := Nat.ne_of_lt lak3_2
    have lmk3_2 := (Nat.ne_of_lt lak3_2).symm
    have lak3_4 := cell_lt k3_4
    have lbk3_4 := Nat.le_of_lt lak3_4
    have lck3_4 := lt1 (k := 1) lak3_4
    have ldk3_4 := lt1 (k := 1) lck3_4
    have lek3_4 := lt1 (k := 1) ldk3_4
    have lnk3_4 := Nat.ne_of_lt lak3_4
    have lmk3_4 := (Nat.ne_of_lt lak3_4).symm
    have lak3_6 := cell_lt k3_6
    have lbk3_6 := Nat.le_of_lt lak3_6
    have lck3_6 := lt1 (k := 1) lak3_6
    have ldk3_6 := lt1 (k := 1) lck3_6
    have lek3_6 := lt1 (k := 1) ldk3_6
    have lnk3_6 := Nat.ne_of_lt lak3_6
    have lmk3_6 := (Nat.ne_of_lt lak3_6).symm
    have lak3_8 := cell_lt k3_8
    have lbk3_8 := Nat.le_of_lt lak3_8
    have lck3_8 := lt1 (k := 1) lak3_8
    have ldk3_8 := lt1 (k := 1) lck3_8
    have lek3_8 := lt1 (k := 1) ldk3_8
    have lnk3_8 := Nat.ne_of_lt lak3_8
    have lmk3_8 := (Nat.ne_of_lt lak3_8).symm
    go_wp2_with fail
    refine (unhide L4 _).mono ?_
    rintro e W4 ⟨rfl, hb⟩
    have k4_0 := keep1 hb (b := w.heap.size) (o := 0) (v := .int .i64 a1) (by simp (maxDischargeDepth := 12) [go_sem, le1, lt1, *])
    have k4_1 := keep1 hb (b := w.heap.size) (o := 1) (v := .int .i64 a2) (by simp (maxDischargeDepth := 12) [go_sem, le1, lt1, *])
    have k4_2 := keep1 hb (b := w.heap.size + 1) (o := 0) (v := .int .i64 b1) (by simp (maxDischargeDepth := 12) [go_sem, le1, lt1, *])
    have k4_3 := keep1 hb (b := w.heap.size + 1) (o := 1) (v := .int .i64 b2) (by simp (maxDischargeDepth := 12) [go_sem, le1, lt1, *])
    have k4_4 := keep1 hb (b := w.heap.size + 1 + 1) (o := 0) (v := .int .i64 c1) (by simp (maxDischargeDepth := 12) [go_sem, le1, lt1, *])
    have k4_5 := keep1 hb (b := w.heap.size + 1 + 1) (o := 1) (v := .int .i64 c2) (by simp (maxDischargeDepth := 12) [go_sem, le1, lt1, *])
    have k4_6 := keep1 hb (b := w.heap.size + 1 + 1 + 1) (o := 0) (v := .int .i64 d1) (by simp (maxDischargeDepth := 12) [go_sem, le1, lt1, *])
    have k4_7 := keep1 hb (b := w.heap.size + 1 + 1 + 1) (o := 1) (v := .int .i64 d2) (by simp (maxDischargeDepth := 12) [go_sem, le1, lt1, *])
    have k4_8 := keep1 hb (b := W2.heap.size) (o := 0) (v := .int .i64 a1) (by simp (maxDischargeDepth := 12) [go_sem, le1, lt1, *])
    have k4_9 := keep1 hb (b := W2.heap.size) (o := 1) (v := .int .i64 a2) (by simp (maxDischargeDepth := 12) [go_sem, le1, lt1, *])
    have k4_10 := keep1 hb (b := W3.heap.size) (o := 0) (v := .int .i64 b1) (by simp (maxDischargeDepth := 12) [go_sem, le1, lt1, *])
    have k4_11 := keep1 hb (b := W3.heap.size) (o := 1) (v := .int .i64 b2) (by simp (maxDischargeDepth := 12) [go_sem, le1, lt1, *])
    have z4 := fun o => keepz hb (b := W3.heap.size) (o := o) (by simp) (by simp (maxDischargeDepth := 12) [go_sem, le1, lt1, *])
    have HB4 := hide hb
    clear hb
    clear k3_0 k3_1 k3_2 k3_3 k3_4 k3_5 k3_6 k3_7 k3_8 k3_9 lak3_0 lbk3_0 lck3_0 ldk3_0 lek3_0 lak3_2 lbk3_2 lck3_2 ldk3_2 lek3_2 lak3_4 lbk3_4 lck3_4 ldk3_4 lek3_4 lak3_6 lbk3_6 lck3_6 ldk3_6 lek3_6 lak3_8 lbk3_8 lck3_8 ldk3_8 lek3_8
    have lak4_0 := cell_lt k4_0
    have lbk4_0 := Nat.le_of_lt lak4_0
    have lck4_0 := lt1 (k := 1) lak4_0
    have ldk4_0 := lt1 (k := 1) lck4_0
    have lek4_0 := lt1 (k := 1) ldk4_0
    have lnk4_0 := Nat.ne_of_lt lak4_0
    have lmk4_0 := (Nat.ne_of_lt lak4_0).symm
    have lak4_2 := cell_lt k4_2
    have lbk4_2 := Nat.le_of_lt lak4_2
    have lck4_2 := lt1 (k := 1) lak4_2
    have ldk4_2 := lt1 (k := 1) lck4_2
    have lek4_2 := lt1 (k := 1) ldk4_2
    have lnk4_2 := Nat.ne_of_lt lak4_2
    have lmk4_2 := (Nat.ne_of_lt lak4_2).symm
    have lak4_4 := cell_lt k4_4
    have lbk4_4 := Nat.le_of_lt lak4_4
    have lck4_4 := lt1 (k := 1) lak4_4
    have ldk4_4 := lt1 (k := 1) lck4_4
    have lek4_4 := lt1 (k := 1) ldk4_4
    have lnk4_4 := Nat.ne_of_lt lak4_4
    have lmk4_4 := (Nat.ne_of_lt lak4_4).symm
    have lak4_6 := cell_lt k4_6
    have lbk4_6 := Nat.le_of_lt lak4_6
    have lck4_6 := lt1 (k := 1) lak4_6
    have ldk4_6 := lt1 (k := 1) lck4_6
    have lek4_6 := lt1 (k := 1) ldk4_6
    have lnk4_6 := Nat.ne_of_lt lak4_6
    have lmk4_6 := (Nat.ne_of_lt lak4_6).symm
    have lak4_8 := cell_lt k4_8
    have lbk4_8 := Nat.le_of_lt lak4_8
    have lck4_8 := lt1 (k := 1) lak4_8
    have ldk4_8 := lt1 (k := 1) lck4_8
    have lek4_8 := lt1 (k := 1) ldk4_8
    have lnk4_8 := Nat.ne_of_lt lak4_8
    have lmk4_8 := (Nat.ne_of_lt lak4_8).symm
    have lak4_10 := cell_lt k4_10
    have lbk4_10 := Nat.le_of_lt lak4_10
    have lck4_10 := lt1 (k := 1) lak4_10
    have ldk4_10 := lt1 (k := 1) lck4_10
    have lek4_10 := lt1 (k := 1) ldk4_10
    have lnk4_10 := Nat.ne_of_lt lak4_10
    have lmk4_10 := (Nat.ne_of_lt lak4_10).symm
    have E4 : Hid (Below w.heap.size w W4) := by
      refine hide (bc ?_ (unhide HB4))
      refine ba ?_ _
      refine bc ?_ (unhide HB3)
      refine ba ?_ _
      refine bc ?_ (unhide HB2)
      refine bc ?_ (unhide HB1)
      exact ba (ba (ba (ba (Below.refl _ _) _) _) _) _
    have le4 : w.heap.size ≤ W3.heap.size := by
      have := (unhide HB1).size
      have := (unhide HB2).size
      have := (unhide HB3).size
      simp at *
      omega
    clear HB1 HB2 HB3 HB4 z3
    go_wp2_with fail
    refine (unhide L5 _).mono ?_
    rintro e W5 ⟨rfl, hb⟩
    have k5_0 := keep1 hb (b := W2.heap.size) (o := 0) (v := .int .i64 a1) (by simp (maxDischargeDepth := 12) [go_sem, le1, lt1, *])
    have k5_1 := keep1 hb (b := W2.heap.size) (o := 1) (v := .int .i64 a2) (by simp (maxDischargeDepth := 12) [go_sem, le1, lt1, *])
    have k5_2 := keep1 hb (b := W3.heap.size) (o := 0) (v := .int .i64 d1) (by simp (maxDischargeDepth := 12) [go_sem, le1, lt1, *])
    have k5_3 := keep1 hb (b := W3.heap.size) (o := 1) (v := .int .i64 d2) (by simp (maxDischargeDepth := 12) [go_sem, le1, lt1, *])
    have HB5 := hide hb
    clear hb
    clear k4_0 k4_1 k4_2 k4_3 k4_4 k4_5 k4_6 k4_7 k4_8 k4_9 k4_10 k4_11 lak4_0 lbk4_0 lck4_0 ldk4_0 lek4_0 lak4_2 lbk4_2 lck4_2 ldk4_2 lek4_2 lak4_4 lbk4_4 lck4_4 ldk4_4 lek4_4 lak4_6 lbk4_6 lck4_6 ldk4_6 lek4_6 lak4_8 lbk4_8 lck4_8 ldk4_8 lek4_8 lak4_10 lbk4_10 lck4_10 ldk4_10 lek4_10
    have lak5_0 := cell_lt k5_0
    have lbk5_0 := Nat.le_of_lt lak5_0
    have lck5_0 := lt1 (k := 1) lak5_0
    have ldk5_0 := lt1 (k := 1) lck5_0
    have lek5_0 := lt1 (k := 1) ldk5_0
    have lnk5_0 := Nat.ne_of_lt lak5_0
    have lmk5_0 := (Nat.ne_of_lt lak5_0).symm
    have lak5_2 := cell_lt k5_2
    have lbk5_2 := Nat.le_of_lt lak5_2
    have lck5_2 := lt1 (k := 1) lak5_2
    have ldk5_2 := lt1 (k := 1) lck5_2
    have lek5_2 := lt1 (k := 1) ldk5_2
    have lnk5_2 := Nat.ne_of_lt lak5_2
    have lmk5_2 := (Nat.ne_of_lt lak5_2).symm
    have E6 := hide (bc (Below.setCell (Below.setCell (unhide E4) le4 _) le4 _) (unhide HB5))
    clear E4 HB5
    go_wp2_with fail
    go_region_held3 (fun wx => wx.cell? ⟨W2.heap.size, 0, none⟩ = some (.int .i64 a1) ∧ wx.cell? ⟨W2.heap.size, 1, none⟩ = some (.int .i64 a2) ∧ wx.cell? ⟨W3.heap.size, 0, none⟩ = some (.int .i64 d1) ∧ wx.cell? ⟨W3.heap.size, 1, none⟩ = some (.int .i64 d2))
      (simp (maxDischargeDepth := 12) [go_sem, le1, lt1, *])
      (first
      | (go_at_call 80; refine (whole_ints _ _ _).mono ?_; rintro e w' ⟨rfl, rfl⟩))
    all_goals
      go_wp2_with fail
      go_ret
      refine ⟨⟨_, rfl, ?_, blk_at _ _ (by simp [World.drew])⟩, ?_⟩
      · repeat (first | exact (unhide E6).size | refine le1 ?_)
      · repeat (first | exact unhide E6 | refine ba ?_ _ | refine Below.drew ?_)

set_option maxRecDepth 100000 in
set_option maxHeartbeats 2000000 in
theorem alongM_lt_cb (a1 a2 b1 b2 c1 c2 d1 d2 : Int) (w : World)
    (L1 : Hid (∀ W, Calls Try.prog 91 #[.agg #[.int .i64 b1, .int .i64 b2], .agg #[.int .i64 a1, .int .i64 a2]] W fun e w' => e = .returned (.bool false) ∧ Below W.heap.size W w'))
    (L2 : Hid (∀ W, Calls Try.prog 91 #[.agg #[.int .i64 d1, .int .i64 d2], .agg #[.int .i64 c1, .int .i64 c2]] W fun e w' => e = .returned (.bool false) ∧ Below W.heap.size W w'))
    (L3 : Hid (∀ W, Calls Try.prog 91 #[.agg #[.int .i64 a1, .int .i64 a2], .agg #[.int .i64 c1, .int .i64 c2]] W fun e w' => e = .returned (.bool true) ∧ Below W.heap.size W w'))
    (L4 : Hid (∀ W, Calls Try.prog 91 #[.agg #[.int .i64 d1, .int .i64 d2], .agg #[.int .i64 b1, .int .i64 b2]] W fun e w' => e = .returned (.bool false) ∧ Below W.heap.size W w'))
    (qq : (c1 == b1) = false ∨ (c1 == b1) = true ∧ (c2 == b2) = false)
    (L5 : Hid (∀ W, Calls Try.prog 91 #[.agg #[.int .i64 c1, .int .i64 c2], .agg #[.int .i64 b1, .int .i64 b2]] W fun e w' => e = .returned (.bool true) ∧ Below W.heap.size W w')) :
    Calls Try.prog 77 #[.agg #[.int .i64 a1, .int .i64 a2], .agg #[.int .i64 b1, .int .i64 b2], .agg #[.int .i64 c1, .int .i64 c2], .agg #[.int .i64 d1, .int .i64 d2]] w fun e w' => (∃ k, e = .returned (.slice (some ⟨k, 0, none⟩) 2 2) ∧ w.heap.size ≤ k ∧ w'.heap[k]? = some (.cells #[.int .i64 c1, .int .i64 c2, .int .i64 1, .int .i64 b1, .int .i64 b2, .int .i64 1] 93 (0, 0))) ∧ Below w.heap.size w w' := by
  rcases qq with q1 | ⟨q1, q2⟩
  all_goals
    go_enter Try.func77, Try.ntmps77
    go_wp2_with fail
    refine (unhide L1 _).mono ?_
    rintro e W1 ⟨rfl, hb⟩
    have k1_0 := keep1 hb (b := w.heap.size) (o := 0) (v := .int .i64 a1) (by simp (maxDischargeDepth := 12) [go_sem, le1, lt1, *])
    have k1_1 := keep1 hb (b := w.heap.size) (o := 1) (v := .int .i64 a2) (by simp (maxDischargeDepth := 12) [go_sem, le1, lt1, *])
    have k1_2 := keep1 hb (b := w.heap.size + 1) (o := 0) (v := .int .i64 b1) (by simp (maxDischargeDepth := 12) [go_sem, le1, lt1, *])
    have k1_3 := keep1 hb (b := w.heap.size + 1) (o := 1) (v := .int .i64 b2) (by simp (maxDischargeDepth := 12) [go_sem, le1, lt1, *])
    have k1_4 := keep1 hb (b := w.heap.size + 1 + 1) (o := 0) (v := .int .i64 c1) (by simp (maxDischargeDepth := 12) [go_sem, le1, lt1, *])
    have k1_5 := keep1 hb (b := w.heap.size + 1 + 1) (o := 1) (v := .int .i64 c2) (by simp (maxDischargeDepth := 12) [go_sem, le1, lt1, *])
    have k1_6 := keep1 hb (b := w.heap.size + 1 + 1 + 1) (o := 0) (v := .int .i64 d1) (by simp (maxDischargeDepth := 12) [go_sem, le1, lt1, *])
    have k1_7 := keep1 hb (b := w.heap.size + 1 + 1 + 1) (o := 1) (v := .int .i64 d2) (by simp (maxDischargeDepth := 12) [go_sem, le1, lt1, *])
    have HB1 := hide hb
    clear hb
    have lak1_0 := cell_lt k1_0
    have lbk1_0 := Nat.le_of_lt lak1_0
    have lck1_0 := lt1 (k := 1) lak1_0
    have ldk1_0 := lt1 (k := 1) lck1_0
    have lek1_0 := lt1 (k := 1) ldk1_0
    have lnk1_0 := Nat.ne_of_lt lak1_0
    have lmk1_0 := (Nat.ne_of_lt lak1_0).symm
    have lak1_2 := cell_lt k1_2
    have lbk1_2 := Nat.le_of_lt lak1_2
    have lck1_2 := lt1 (k := 1) lak1_2
    have ldk1_2 := lt1 (k := 1) lck1_2
    have lek1_2 := lt1 (k := 1) ldk1_2
    have lnk1_2 := Nat.ne_of_lt lak1_2
    have lmk1_2 := (Nat.ne_of_lt lak1_2).symm
    have lak1_4 := cell_lt k1_4
    have lbk1_4 := Nat.le_of_lt lak1_4
    have lck1_4 := lt1 (k := 1) lak1_4
    have ldk1_4 := lt1 (k := 1) lck1_4
    have lek1_4 := lt1 (k := 1) ldk1_4
    have lnk1_4 := Nat.ne_of_lt lak1_4
    have lmk1_4 := (Nat.ne_of_lt lak1_4).symm
    have lak1_6 := cell_lt k1_6
    have lbk1_6 := Nat.le_of_lt lak1_6
    have lck1_6 := lt1 (k := 1) lak1_6
    have ldk1_6 := lt1 (k := 1) lck1_6
    have lek1_6 := lt1 (k := 1) ldk1_6
    have lnk1_6 := Nat.ne_of_lt lak1_6
    have lmk1_6 := (Nat.ne_of_lt lak1_6).symm
    go_wp2_with fail
    refine (unhide L2 _).mono ?_
    rintro e W2 ⟨rfl, hb⟩
    have k2_0 := keep1 hb (b := w.heap.size) (o := 0) (v := .int .i64 a1) (by simp (maxDischargeDepth := 12) [go_sem, le1, lt1, *])
    have k2_1 := keep1 hb (b := w.heap.size) (o := 1) (v := .int .i64 a2) (by simp (maxDischargeDepth := 12) [go_sem, le1, lt1, *])
    have k2_2 := keep1 hb (b := w.heap.size + 1) (o := 0) (v := .int .i64 b1) (by simp (maxDischargeDepth := 12) [go_sem, le1, lt1, *])
    have k2_3 := keep1 hb (b := w.heap.size + 1) (o := 1) (v := .int .i64 b2) (by simp (maxDischargeDepth := 12) [go_sem, le1, lt1, *])
    have k2_4 := keep1 hb (b := w.heap.size + 1 + 1) (o := 0) (v := .int .i64 c1) (by simp (maxDischargeDepth := 12) [go_sem, le1, lt1, *])
    have k2_5 := keep1 hb (b := w.heap.size + 1 + 1) (o := 1) (v := .int .i64 c2) (by simp (maxDischargeDepth := 12) [go_sem, le1, lt1, *])
    have k2_6 := keep1 hb (b := w.heap.size + 1 + 1 + 1) (o := 0) (v := .int .i64 d1) (by simp (maxDischargeDepth := 12) [go_sem, le1, lt1, *])
    have k2_7 := keep1 hb (b := w.heap.size + 1 + 1 + 1) (o := 1) (v := .int .i64 d2) (by simp (maxDischargeDepth := 12) [go_sem, le1, lt1, *])
    have HB2 := hide hb
    clear hb
    clear k1_0 k1_1 k1_2 k1_3 k1_4 k1_5 k1_6 k1_7 lak1_0 lbk1_0 lck1_0 ldk1_0 lek1_0 lak1_2 lbk1_2 lck1_2 ldk1_2 lek1_2 lak1_4 lbk1_4 lck1_4 ldk1_4 lek1_4 lak1_6 lbk1_6 lck1_6 ldk1_6 lek1_6
    have lak2_0 := cell_lt k2_0
    have lbk2_0 := Nat.le_of_lt lak2_0
    have lck2_0 := lt1 (k := 1) lak2_0
    have ldk2_0 := lt1 (k := 1) lck2_0
    have lek2_0 := lt1 (k := 1) ldk2_0
    have lnk2_0 := Nat.ne_of_lt lak2_0
    have lmk2_0 := (Nat.ne_of_lt lak2_0).symm
    have lak2_2 := cell_lt k2_2
    have lbk2_2 := Nat.le_of_lt lak2_2
    have lck2_2 := lt1 (k := 1) lak2_2
    have ldk2_2 := lt1 (k := 1) lck2_2
    have lek2_2 := lt1 (k := 1) ldk2_2
    have lnk2_2 := Nat.ne_of_lt lak2_2
    have lmk2_2 := (Nat.ne_of_lt lak2_2).symm
    have lak2_4 := cell_lt k2_4
    have lbk2_4 := Nat.le_of_lt lak2_4
    have lck2_4 := lt1 (k := 1) lak2_4
    have ldk2_4 := lt1 (k := 1) lck2_4
    have lek2_4 := lt1 (k := 1) ldk2_4
    have lnk2_4 := Nat.ne_of_lt lak2_4
    have lmk2_4 := (Nat.ne_of_lt lak2_4).symm
    have lak2_6 := cell_lt k2_6
    have lbk2_6 := Nat.le_of_lt lak2_6
    have lck2_6 := lt1 (k := 1) lak2_6
    have ldk2_6 := lt1 (k := 1) lck2_6
    have lek2_6 := lt1 (k := 1) ldk2_6
    have lnk2_6 := Nat.ne_of_lt lak2_6
    have lmk2_6 := (Nat.ne_of_lt lak2_6).symm
    go_wp2_with fail
    refine (unhide L3 _).mono ?_
    rintro e W3 ⟨rfl, hb⟩
    have k3_0 := keep1 hb (b := w.heap.size) (o := 0) (v := .int .i64 a1) (by simp (maxDischargeDepth := 12) [go_sem, le1, lt1, *])
    have k3_1 := keep1 hb (b := w.heap.size) (o := 1) (v := .int .i64 a2) (by simp (maxDischargeDepth := 12) [go_sem, le1, lt1, *])
    have k3_2 := keep1 hb (b := w.heap.size + 1) (o := 0) (v := .int .i64 b1) (by simp (maxDischargeDepth := 12) [go_sem, le1, lt1, *])
    have k3_3 := keep1 hb (b := w.heap.size + 1) (o := 1) (v := .int .i64 b2) (by simp (maxDischargeDepth := 12) [go_sem, le1, lt1, *])
    have k3_4 := keep1 hb (b := w.heap.size + 1 + 1) (o := 0) (v := .int .i64 c1) (by simp (maxDischargeDepth := 12) [go_sem, le1, lt1, *])
    have k3_5 := keep1 hb (b := w.heap.size + 1 + 1) (o := 1) (v := .int .i64 c2) (by simp (maxDischargeDepth := 12) [go_sem, le1, lt1, *])
    have k3_6 := keep1 hb (b := w.heap.size + 1 + 1 + 1) (o := 0) (v := .int .i64 d1) (by simp (maxDischargeDepth := 12) [go_sem, le1, lt1, *])
    have k3_7 := keep1 hb (b := w.heap.size + 1 + 1 + 1) (o := 1) (v := .int .i64 d2) (by simp (maxDischargeDepth := 12) [go_sem, le1, lt1, *])
    have k3_8 := keep1 hb (b := W2.heap.size) (o := 0) (v := .int .i64 a1) (by simp (maxDischargeDepth := 12) [go_sem, le1, lt1, *])
    have k3_9 := keep1 hb (b := W2.heap.size) (o := 1) (v := .int .i64 a2) (by simp (maxDischargeDepth := 12) [go_sem, le1, lt1, *])
    have z3 := fun o => keepz hb (b := W2.heap.size) (o := o) (by simp) (by simp (maxDischargeDepth := 12) [go_sem, le1, lt1, *])
    have HB3 := hide hb
    clear hb
    clear k2_0 k2_1 k2_2 k2_3 k2_4 k2_5 k2_6 k2_7 lak2_0 lbk2_0 lck2_0 ldk2_0 lek2_0 lak2_2 lbk2_2 lck2_2 ldk2_2 lek2_2 lak2_4 lbk2_4 lck2_4 ldk2_4 lek2_4 lak2_6 lbk2_6 lck2_6 ldk2_6 lek2_6
    have lak3_0 := cell_lt k3_0
    have lbk3_0 := Nat.le_of_lt lak3_0
    have lck3_0 := lt1 (k := 1) lak3_0
    have ldk3_0 := lt1 (k := 1) lck3_0
    have lek3_0 := lt1 (k := 1) ldk3_0
    have lnk3_0 := Nat.ne_of_lt lak3_0
    have lmk3_0 := (Nat.ne_of_lt lak3_0).symm
    have lak3_2 := cell_lt k3_2
    have lbk3_2 := Nat.le_of_lt lak3_2
    have lck3_2 := lt1 (k := 1) lak3_2
    have ldk3_2 := lt1 (k := 1) lck3_2
    have lek3_2 := lt1 (k := 1) ldk3_2
    have lnk3_2 := Nat.ne_of_lt lak3_2
    have lmk3_2 := (Nat.ne_of_lt lak3_2).symm
    have lak3_4 := cell_lt k3_4
    have lbk3_4 := Nat.le_of_lt lak3_4
    have lck3_4 := lt1 (k := 1) lak3_4
    have ldk3_4 := lt1 (k := 1) lck3_4
    have lek3_4 := lt1 (k := 1) ldk3_4
    have lnk3_4 := Nat.ne_of_lt lak3_4
    have lmk3_4 := (Nat.ne_of_lt lak3_4).symm
    have lak3_6 := cell_lt k3_6
    have lbk3_6 := Nat.le_of_lt lak3_6
    have lck3_6 := lt1 (k := 1) lak3_6
    have ldk3_6 := lt1 (k := 1) lck3_6
    have lek3_6 := lt1 (k := 1) ldk3_6
    have lnk3_6 := Nat.ne_of_lt lak3_6
    have lmk3_6 := (Nat.ne_of_lt lak3_6).symm
    have lak3_8 := cell_lt k3_8
    have lbk3_8 := Nat.le_of_lt lak3_8
    have lck3_8 := lt1 (k := 1) lak3_8
    have ldk3_8 := lt1 (k := 1) lck3_8
    have lek3_8 := lt1 (k := 1) ldk3_8
    have lnk3_8 := Nat.ne_of_lt lak3_8
    have lmk3_8 := (Nat.ne_of_lt lak3_8).symm
    go_wp2_with fail
    refine (unhide L4 _).mono ?_
    rintro e W4 ⟨rfl, hb⟩
    have k4_0 := keep1 hb (b := w.heap.size) (o := 0) (v := .int .i64 a1) (by simp (maxDischargeDepth := 12) [go_sem, le1, lt1, *])
    have k4_1 := keep1 hb (b := w.heap.size) (o := 1) (v := .int .i64 a2) (by simp (maxDischargeDepth := 12) [go_sem, le1, lt1, *])
    have k4_2 := keep1 hb (b := w.heap.size + 1) (o := 0) (v := .int .i64 b1) (by simp (maxDischargeDepth := 12) [go_sem, le1, lt1, *])
    have k4_3 := keep1 hb (b := w.heap.size + 1) (o := 1) (v := .int .i64 b2) (by simp (maxDischargeDepth := 12) [go_sem, le1, lt1, *])
    have k4_4 := keep1 hb (b := w.heap.size + 1 + 1) (o := 0) (v := .int .i64 c1) (by simp (maxDischargeDepth := 12) [go_sem, le1, lt1, *])
    have k4_5 := keep1 hb (b := w.heap.size + 1 + 1) (o := 1) (v := .int .i64 c2) (by simp (maxDischargeDepth := 12) [go_sem, le1, lt1, *])
    have k4_6 := keep1 hb (b := w.heap.size + 1 + 1 + 1) (o := 0) (v := .int .i64 d1) (by simp (maxDischargeDepth := 12) [go_sem, le1, lt1, *])
    have k4_7 := keep1 hb (b := w.heap.size + 1 + 1 + 1) (o := 1) (v := .int .i64 d2) (by simp (maxDischargeDepth := 12) [go_sem, le1, lt1, *])
    have k4_8 := keep1 hb (b := W2.heap.size) (o := 0) (v := .int .i64 c1) (by simp (maxDischargeDepth := 12) [go_sem, le1, lt1, *])
    have k4_9 := keep1 hb (b := W2.heap.size) (o := 1) (v := .int .i64 c2) (by simp (maxDischargeDepth := 12) [go_sem, le1, lt1, *])
    have k4_10 := keep1 hb (b := W3.heap.size) (o := 0) (v := .int .i64 b1) (by simp (maxDischargeDepth := 12) [go_sem, le1, lt1, *])
    have k4_11 := keep1 hb (b := W3.heap.size) (o := 1) (v := .int .i64 b2) (by simp (maxDischargeDepth := 12) [go_sem, le1, lt1, *])
    have z4 := fun o => keepz hb (b := W3.heap.size) (o := o) (by simp) (by simp (maxDischargeDepth := 12) [go_sem, le1, lt1, *])
    have HB4 := hide hb
    clear hb
    clear k3_0 k3_1 k3_2 k3_3 k3_4 k3_5 k3_6 k3_7 k3_8 k3_9 lak3_0 lbk3_0 lck3_0 ldk3_0 lek3_0 lak3_2 lbk3_2 lck3_2 ldk3_2 lek3_2 lak3_4 lbk3_4 lck3_4 ldk3_4 lek3_4 lak3_6 lbk3_6 lck3_6 ldk3_6 lek3_6 lak3_8 lbk3_8 lck3_8 ldk3_8 lek3_8
    have lak4_0 := cell_lt k4_0
    have lbk4_0 := Nat.le_of_lt lak4_0
    have lck4_0 := lt1 (k := 1) lak4_0
    have ldk4_0 := lt1 (k := 1) lck4_0
    have lek4_0 := lt1 (k := 1) ldk4_0
    have lnk4_0 := Nat.ne_of_lt lak4_0
    have lmk4_0 := (Nat.ne_of_lt lak4_0).symm
    have lak4_2 := cell_lt k4_2
    have lbk4_2 := Nat.le_of_lt lak4_2
    have lck4_2 := lt1 (k := 1) lak4_2
    have ldk4_2 := lt1 (k := 1) lck4_2
    have lek4_2 := lt1 (k := 1) ldk4_2
    have lnk4_2 := Nat.ne_of_lt lak4_2
    have lmk4_2 := (Nat.ne_of_lt lak4_2).symm
    have lak4_4 := cell_lt k4_4
    have lbk4_4 := Nat.le_of_lt lak4_4
    have lck4_4 := lt1 (k := 1) lak4_4
    have ldk4_4 := lt1 (k := 1) lck4_4
    have lek4_4 := lt1 (k := 1) ldk4_4
    have lnk4_4 := Nat.ne_of_lt lak4_4
    have lmk4_4 := (Nat.ne_of_lt lak4_4).symm
    have lak4_6 := cell_lt k4_6
    have lbk4_6 := Nat.le_of_lt lak4_6
    have lck4_6 := lt1 (k := 1) lak4_6
    have ldk4_6 := lt1 (k := 1) lck4_6
    have lek4_6 := lt1 (k := 1) ldk4_6
    have lnk4_6 := Nat.ne_of_lt lak4_6
    have lmk4_6 := (Nat.ne_of_lt lak4_6).symm
    have lak4_8 := cell_lt k4_8
    have lbk4_8 := Nat.le_of_lt lak4_8
    have lck4_8 := lt1 (k := 1) lak4_8
    have ldk4_8 := lt1 (k := 1) lck4_8
    have lek4_8 := lt1 (k := 1) ldk4_8
    have lnk4_8 := Nat.ne_of_lt lak4_8
    have lmk4_8 := (Nat.ne_of_lt lak4_8).symm
    have lak4_10 := cell_lt k4_10
    have lbk4_10 := Nat.le_of_lt lak4_10
    have lck4_10 := lt1 (k := 1) lak4_10
    have ldk4_10 := lt1 (k := 1) lck4_10
    have lek4_10 := lt1 (k := 1) ldk4_10
    have lnk4_10 := Nat.ne_of_lt lak4_10
    have lmk4_10 := (Nat.ne_of_lt lak4_10).symm
    have E4 : Hid (Below w.heap.size w W4) := by
      refine hide (bc ?_ (unhide HB4))
      refine ba ?_ _
      refine Below.setCell (Below.setCell ?_ (le_bel (bc (ba (ba (ba (ba (Below.refl w.heap.size w) _) _) _) _) (unhide HB1)) (unhide HB2)) _) (le_bel (bc (ba (ba (ba (ba (Below.refl w.heap.size w) _) _) _) _) (unhide HB1)) (unhide HB2)) _
      refine bc ?_ (unhide HB3)
      refine ba ?_ _
      refine bc ?_ (unhide HB2)
      refine bc ?_ (unhide HB1)
      exact ba (ba (ba (ba (Below.refl _ _) _) _) _) _
    have le4 : w.heap.size ≤ W3.heap.size := by
      have := (unhide HB1).size
      have := (unhide HB2).size
      have := (unhide HB3).size
      simp at *
      omega
    clear HB1 HB2 HB3 HB4 z3
    go_wp2_with fail
    refine (unhide L5 _).mono ?_
    rintro e W5 ⟨rfl, hb⟩
    have k5_0 := keep1 hb (b := W2.heap.size) (o := 0) (v := .int .i64 c1) (by simp (maxDischargeDepth := 12) [go_sem, le1, lt1, *])
    have k5_1 := keep1 hb (b := W2.heap.size) (o := 1) (v := .int .i64 c2) (by simp (maxDischargeDepth := 12) [go_sem, le1, lt1, *])
    have k5_2 := keep1 hb (b := W3.heap.size) (o := 0) (v := .int .i64 b1) (by simp (maxDischargeDepth := 12) [go_sem, le1, lt1, *])
    have k5_3 := keep1 hb (b := W3.heap.size) (o := 1) (v := .int .i64 b2) (by simp (maxDischargeDepth := 12) [go_sem, le1, lt1, *])
    have HB5 := hide hb
    clear hb
    clear k4_0 k4_1 k4_2 k4_3 k4_4 k4_5 k4_6 k4_7 k4_8 k4_9 k4_10 k4_11 lak4_0 lbk4_0 lck4_0 ldk4_0 lek4_0 lak4_2 lbk4_2 lck4_2 ldk4_2 lek4_2 lak4_4 lbk4_4 lck4_4 ldk4_4 lek4_4 lak4_6 lbk4_6 lck4_6 ldk4_6 lek4_6 lak4_8 lbk4_8 lck4_8 ldk4_8 lek4_8 lak4_10 lbk4_10 lck4_10 ldk4_10 lek4_10
    have lak5_0 := cell_lt k5_0
    have lbk5_0 := Nat.le_of_lt lak5_0
    have lck5_0 := lt1 (k := 1) lak5_0
    have ldk5_0 := lt1 (k := 1) lck5_0
    have lek5_0 := lt1 (k := 1) ldk5_0
    have lnk5_0 := Nat.ne_of_lt lak5_0
    have lmk5_0 := (Nat.ne_of_lt lak5_0).symm
    have lak5_2 := cell_lt k5_2
    have lbk5_2 := Nat.le_of_lt lak5_2
    have lck5_2 := lt1 (k := 1) lak5_2
    have ldk5_2 := lt1 (k := 1) lck5_2
    have lek5_2 := lt1 (k := 1) ldk5_2
    have lnk5_2 := Nat.ne_of_lt lak5_2
    have lmk5_2 := (Nat.ne_of_lt lak5_2).symm
    have E6 := hide (bc (unhide E4) (unhide HB5))
    clear E4 HB5
    go_wp2_with fail
    go_region_held3 (fun wx => wx.cell? ⟨W2.heap.size, 0, none⟩ = some (.int .i64 c1) ∧ wx.cell? ⟨W2.heap.size, 1, none⟩ = some (.int .i64 c2) ∧ wx.cell? ⟨W3.heap.size, 0, none⟩ = some (.int .i64 b1) ∧ wx.cell? ⟨W3.heap.size, 1, none⟩ = some (.int .i64 b2))
      (simp (maxDischargeDepth := 12) [go_sem, le1, lt1, *])
      (first
      | (go_at_call 80; refine (whole_ints _ _ _).mono ?_; rintro e w' ⟨rfl, rfl⟩))
    all_goals
      go_wp2_with fail
      go_ret
      refine ⟨⟨_, rfl, ?_, blk_at _ _ (by simp [World.drew])⟩, ?_⟩
      · repeat (first | exact (unhide E6).size | refine le1 ?_)
      · repeat (first | exact unhide E6 | refine ba ?_ _ | refine Below.drew ?_)

set_option maxRecDepth 100000 in
set_option maxHeartbeats 2000000 in
theorem alongM_lt_cd (a1 a2 b1 b2 c1 c2 d1 d2 : Int) (w : World)
    (L1 : Hid (∀ W, Calls Try.prog 91 #[.agg #[.int .i64 b1, .int .i64 b2], .agg #[.int .i64 a1, .int .i64 a2]] W fun e w' => e = .returned (.bool false) ∧ Below W.heap.size W w'))
    (L2 : Hid (∀ W, Calls Try.prog 91 #[.agg #[.int .i64 d1, .int .i64 d2], .agg #[.int .i64 c1, .int .i64 c2]] W fun e w' => e = .returned (.bool false) ∧ Below W.heap.size W w'))
    (L3 : Hid (∀ W, Calls Try.prog 91 #[.agg #[.int .i64 a1, .int .i64 a2], .agg #[.int .i64 c1, .int .i64 c2]] W fun e w' => e = .returned (.bool true) ∧ Below W.heap.size W w'))
    (L4 : Hid (∀ W, Calls Try.prog 91 #[.agg #[.int .i64 d1, .int .i64 d2], .agg #[.int .i64 b1, .int .i64 b2]] W fun e w' => e = .returned (.bool true) ∧ Below W.heap.size W w'))
    (qq : (c1 == d1) = false ∨ (c1 == d1) = true ∧ (c2 == d2) = false)
    (L5 : Hid (∀ W, Calls Try.prog 91 #[.agg #[.int .i64 c1, .int .i64 c2], .agg #[.int .i64 d1, .int .i64 d2]] W fun e w' => e = .returned (.bool true) ∧ Below W.heap.size W w')) :
    Calls Try.prog 77 #[.agg #[.int .i64 a1, .int .i64 a2], .agg #[.int .i64 b1, .int .i64 b2], .agg #[.int .i64 c1, .int .i64 c2], .agg #[.int .i64 d1, .int .i64 d2]] w fun e w' => (∃ k, e = .returned (.slice (some ⟨k, 0, none⟩) 2 2) ∧ w.heap.size ≤ k ∧ w'.heap[k]? = some (.cells #[.int .i64 c1, .int .i64 c2, .int .i64 1, .int .i64 d1, .int .i64 d2, .int .i64 1] 93 (0, 0))) ∧ Below w.heap.size w w' := by
  rcases qq with q1 | ⟨q1, q2⟩
  all_goals
    go_enter Try.func77, Try.ntmps77
    go_wp2_with fail
    refine (unhide L1 _).mono ?_
    rintro e W1 ⟨rfl, hb⟩
    have k1_0 := keep1 hb (b := w.heap.size) (o := 0) (v := .int .i64 a1) (by simp (maxDischargeDepth := 12) [go_sem, le1, lt1, *])
    have k1_1 := keep1 hb (b := w.heap.size) (o := 1) (v := .int .i64 a2) (by simp (maxDischargeDepth := 12) [go_sem, le1, lt1, *])
    have k1_2 := keep1 hb (b := w.heap.size + 1) (o := 0) (v := .int .i64 b1) (by simp (maxDischargeDepth := 12) [go_sem, le1, lt1, *])
    have k1_3 := keep1 hb (b := w.heap.size + 1) (o := 1) (v := .int .i64 b2) (by simp (maxDischargeDepth := 12) [go_sem, le1, lt1, *])
    have k1_4 := keep1 hb (b := w.heap.size + 1 + 1) (o := 0) (v := .int .i64 c1) (by simp (maxDischargeDepth := 12) [go_sem, le1, lt1, *])
    have k1_5 := keep1 hb (b := w.heap.size + 1 + 1) (o := 1) (v := .int .i64 c2) (by simp (maxDischargeDepth := 12) [go_sem, le1, lt1, *])
    have k1_6 := keep1 hb (b := w.heap.size + 1 + 1 + 1) (o := 0) (v := .int .i64 d1) (by simp (maxDischargeDepth := 12) [go_sem, le1, lt1, *])
    have k1_7 := keep1 hb (b := w.heap.size + 1 + 1 + 1) (o := 1) (v := .int .i64 d2) (by simp (maxDischargeDepth := 12) [go_sem, le1, lt1, *])
    have HB1 := hide hb
    clear hb
    have lak1_0 := cell_lt k1_0
    have lbk1_0 := Nat.le_of_lt lak1_0
    have lck1_0 := lt1 (k := 1) lak1_0
    have ldk1_0 := lt1 (k := 1) lck1_0
    have lek1_0 := lt1 (k := 1) ldk1_0
    have lnk1_0 := Nat.ne_of_lt lak1_0
    have lmk1_0 := (Nat.ne_of_lt lak1_0).symm
    have lak1_2 := cell_lt k1_2
    have lbk1_2 := Nat.le_of_lt lak1_2
    have lck1_2 := lt1 (k := 1) lak1_2
    have ldk1_2 := lt1 (k := 1) lck1_2
    have lek1_2 := lt1 (k := 1) ldk1_2
    have lnk1_2 := Nat.ne_of_lt lak1_2
    have lmk1_2 := (Nat.ne_of_lt lak1_2).symm
    have lak1_4 := cell_lt k1_4
    have lbk1_4 := Nat.le_of_lt lak1_4
    have lck1_4 := lt1 (k := 1) lak1_4
    have ldk1_4 := lt1 (k := 1) lck1_4
    have lek1_4 := lt1 (k := 1) ldk1_4
    have lnk1_4 := Nat.ne_of_lt lak1_4
    have lmk1_4 := (Nat.ne_of_lt lak1_4).symm
    have lak1_6 := cell_lt k1_6
    have lbk1_6 := Nat.le_of_lt lak1_6
    have lck1_6 := lt1 (k := 1) lak1_6
    have ldk1_6 := lt1 (k := 1) lck1_6
    have lek1_6 := lt1 (k := 1) ldk1_6
    have lnk1_6 := Nat.ne_of_lt lak1_6
    have lmk1_6 := (Nat.ne_of_lt lak1_6).symm
    go_wp2_with fail
    refine (unhide L2 _).mono ?_
    rintro e W2 ⟨rfl, hb⟩
    have k2_0 := keep1 hb (b := w.heap.size) (o := 0) (v := .int .i64 a1) (by simp (maxDischargeDepth := 12) [go_sem, le1, lt1, *])
    have k2_1 := keep1 hb (b := w.heap.size) (o := 1) (v := .int .i64 a2) (by simp (maxDischargeDepth := 12) [go_sem, le1, lt1, *])
    have k2_2 := keep1 hb (b := w.heap.size + 1) (o := 0) (v := .int .i64 b1) (by simp (maxDischargeDepth := 12) [go_sem, le1, lt1, *])
    have k2_3 := keep1 hb (b := w.heap.size + 1) (o := 1) (v := .int .i64 b2) (by simp (maxDischargeDepth := 12) [go_sem, le1, lt1, *])
    have k2_4 := keep1 hb (b := w.heap.size + 1 + 1) (o := 0) (v := .int .i64 c1) (by simp (maxDischargeDepth := 12) [go_sem, le1, lt1, *])
    have k2_5 := keep1 hb (b := w.heap.size + 1 + 1) (o := 1) (v := .int .i64 c2) (by simp (maxDischargeDepth := 12) [go_sem, le1, lt1, *])
    have k2_6 := keep1 hb (b := w.heap.size + 1 + 1 + 1) (o := 0) (v := .int .i64 d1) (by simp (maxDischargeDepth := 12) [go_sem, le1, lt1, *])
    have k2_7 := keep1 hb (b := w.heap.size + 1 + 1 + 1) (o := 1) (v := .int .i64 d2) (by simp (maxDischargeDepth := 12) [go_sem, le1, lt1, *])
    have HB2 := hide hb
    clear hb
    clear k1_0 k1_1 k1_2 k1_3 k1_4 k1_5 k1_6 k1_7 lak1_0 lbk1_0 lck1_0 ldk1_0 lek1_0 lak1_2 lbk1_2 lck1_2 ldk1_2 lek1_2 lak1_4 lbk1_4 lck1_4 ldk1_4 lek1_4 lak1_6 lbk1_6 lck1_6 ldk1_6 lek1_6
    have lak2_0 := cell_lt k2_0
    have lbk2_0 := Nat.le_of_lt lak2_0
    have lck2_0 := lt1 (k := 1) lak2_0
    have ldk2_0 := lt1 (k := 1) lck2_0
    have lek2_0 := lt1 (k := 1) ldk2_0
    have lnk2_0 := Nat.ne_of_lt lak2_0
    have lmk2_0 := (Nat.ne_of_lt lak2_0).symm
    have lak2_2 := cell_lt k2_2
    have lbk2_2 := Nat.le_of_lt lak2_2
    have lck2_2 := lt1 (k := 1) lak2_2
    have ldk2_2 := lt1 (k := 1) lck2_2
    have lek2_2 := lt1 (k := 1) ldk2_2
    have lnk2_2 := Nat.ne_of_lt lak2_2
    have lmk2_2 := (Nat.ne_of_lt lak2_2).symm
    have lak2_4 := cell_lt k2_4
    have lbk2_4 := Nat.le_of_lt lak2_4
    have lck2_4 := lt1 (k := 1) lak2_4
    have ldk2_4 := lt1 (k := 1) lck2_4
    have lek2_4 := lt1 (k := 1) ldk2_4
    have lnk2_4 := Nat.ne_of_lt lak2_4
    have lmk2_4 := (Nat.ne_of_lt lak2_4).symm
    have lak2_6 := cell_lt k2_6
    have lbk2_6 := Nat.le_of_lt lak2_6
    have lck2_6 := lt1 (k := 1) lak2_6
    have ldk2_6 := lt1 (k := 1) lck2_6
    have lek2_6 := lt1 (k := 1) ldk2_6
    have lnk2_6 := Nat.ne_of_lt lak2_6
    have lmk2_6 := (Nat.ne_of_lt lak2_6).symm
    go_wp2_with fail
    refine (unhide L3 _).mono ?_
    rintro e W3 ⟨rfl, hb⟩
    have k3_0 := keep1 hb (b := w.heap.size) (o := 0) (v := .int .i64 a1) (by simp (maxDischargeDepth := 12) [go_sem, le1, lt1, *])
    have k3_1 := keep1 hb (b := w.heap.size) (o := 1) (v := .int .i64 a2) (by simp (maxDischargeDepth := 12) [go_sem, le1, lt1, *])
    have k3_2 := keep1 hb (b := w.heap.size + 1) (o := 0) (v := .int .i64 b1) (by simp (maxDischargeDepth := 12) [go_sem, le1, lt1, *])
    have k3_3 := keep1 hb (b := w.heap.size + 1) (o := 1) (v := .int .i64 b2) (by simp (maxDischargeDepth := 12) [go_sem, le1, lt1, *])
    have k3_4 := keep1 hb (b := w.heap.size + 1 + 1) (o := 0) (v := .int .i64 c1) (by simp (maxDischargeDepth := 12) [go_sem, le1, lt1, *])
    have k3_5 := keep1 hb (b := w.heap.size + 1 + 1) (o := 1) (v := .int .i64 c2) (by simp (maxDischargeDepth := 12) [go_sem, le1, lt1, *])
    have k3_6 := keep1 hb (b := w.heap.size + 1 + 1 + 1) (o := 0) (v := .int .i64 d1) (by simp (maxDischargeDepth := 12) [go_sem, le1, lt1, *])
    have k3_7 := keep1 hb (b := w.heap.size + 1 + 1 + 1) (o := 1) (v := .int .i64 d2) (by simp (maxDischargeDepth := 12) [go_sem, le1, lt1, *])
    have k3_8 := keep1 hb (b := W2.heap.size) (o := 0) (v := .int .i64 a1) (by simp (maxDischargeDepth := 12) [go_sem, le1, lt1, *])
    have k3_9 := keep1 hb (b := W2.heap.size) (o := 1) (v := .int .i64 a2) (by simp (maxDischargeDepth := 12) [go_sem, le1, lt1, *])
    have z3 := fun o => keepz hb (b := W2.heap.size) (o := o) (by simp) (by simp (maxDischargeDepth := 12) [go_sem, le1, lt1, *])
    have HB3 := hide hb
    clear hb
    clear k2_0 k2_1 k2_2 k2_3 k2_4 k2_5 k2_6 k2_7 lak2_0 lbk2_0 lck2_0 ldk2_0 lek2_0 lak2_2 lbk2_2 lck2_2 ldk2_2 lek2_2 lak2_4 lbk2_4 lck2_4 ldk2_4 lek2_4 lak2_6 lbk2_6 lck2_6 ldk2_6 lek2_6
    have lak3_0 := cell_lt k3_0
    have lbk3_0 := Nat.le_of_lt lak3_0
    have lck3_0 := lt1 (k := 1) lak3_0
    have ldk3_0 := lt1 (k := 1) lck3_0
    have lek3_0 := lt1 (k := 1) ldk3_0
    have lnk3_0 := Nat.ne_of_lt lak3_0
    have lmk3_0 := (Nat.ne_of_lt lak3_0).symm
    have lak3_2 := cell_lt k3_2
    have lbk3_2 := Nat.le_of_lt lak3_2
    have lck3_2 := lt1 (k := 1) lak3_2
    have ldk3_2 := lt1 (k := 1) lck3_2
    have lek3_2 := lt1 (k := 1) ldk3_2
    have lnk3_2 := Nat.ne_of_lt lak3_2
    have lmk3_2 := (Nat.ne_of_lt lak3_2).symm
    have lak3_4 := cell_lt k3_4
    have lbk3_4 := Nat.le_of_lt lak3_4
    have lck3_4 := lt1 (k := 1) lak3_4
    have ldk3_4 := lt1 (k := 1) lck3_4
    have lek3_4 := lt1 (k := 1) ldk3_4
    have lnk3_4 := Nat.ne_of_lt lak3_4
    have lmk3_4 := (Nat.ne_of_lt lak3_4).symm
    have lak3_6 := cell_lt k3_6
    have lbk3_6 := Nat.le_of_lt lak3_6
    have lck3_6 := lt1 (k := 1) lak3_6
    have ldk3_6 := lt1 (k := 1) lck3_6
    have lek3_6 := lt1 (k := 1) ldk3_6
    have lnk3_6 := Nat.ne_of_lt lak3_6
    have lmk3_6 := (Nat.ne_of_lt lak3_6).symm
    have lak3_8 := cell_lt k3_8
    have lbk3_8 := Nat.le_of_lt lak3_8
    have lck3_8 := lt1 (k := 1) lak3_8
    have ldk3_8 := lt1 (k := 1) lck3_8
    have lek3_8 := lt1 (k := 1) ldk3_8
    have lnk3_8 := Nat.ne_of_lt lak3_8
    have lmk3_8 := (Nat.ne_of_lt lak3_8).symm
    go_wp2_with fail
    refine (unhide L4 _).mono ?_
    rintro e W4 ⟨rfl, hb⟩
    have k4_0 := keep1 hb (b := w.heap.size) (o := 0) (v := .int .i64 a1) (by simp (maxDischargeDepth := 12) [go_sem, le1, lt1, *])
    have k4_1 := keep1 hb (b := w.heap.size) (o := 1) (v := .int .i64 a2) (by simp (maxDischargeDepth := 12) [go_sem, le1, lt1, *])
    have k4_2 := keep1 hb (b := w.heap.size + 1) (o := 0) (v := .int .i64 b1) (by simp (maxDischargeDepth := 12) [go_sem, le1, lt1, *])
    have k4_3 := keep1 hb (b := w.heap.size + 1) (o := 1) (v := .int .i64 b2) (by simp (maxDischargeDepth := 12) [go_sem, le1, lt1, *])
    have k4_4 := keep1 hb (b := w.heap.size + 1 + 1) (o := 0) (v := .int .i64 c1) (by simp (maxDischargeDepth := 12) [go_sem, le1, lt1, *])
    have k4_5 := keep1 hb (b := w.heap.size + 1 + 1) (o := 1) (v := .int .i64 c2) (by simp (maxDischargeDepth := 12) [go_sem, le1, lt1, *])
    have k4_6 := keep1 hb (b := w.heap.size + 1 + 1 + 1) (o := 0) (v := .int .i64 d1) (by simp (maxDischargeDepth := 12) [go_sem, le1, lt1, *])
    have k4_7 := keep1 hb (b := w.heap.size + 1 + 1 + 1) (o := 1) (v := .int .i64 d2) (by simp (maxDischargeDepth := 12) [go_sem, le1, lt1, *])
    have k4_8 := keep1 hb (b := W2.heap.size) (o := 0) (v := .int .i64 c1) (by simp (maxDischargeDepth := 12) [go_sem, le1, lt1, *])
    have k4_9 := keep1 hb (b := W2.heap.size) (o := 1) (v := .int .i64 c2) (by simp (maxDischargeDepth := 12) [go_sem, le1, lt1, *])
    have k4_10 := keep1 hb (b := W3.heap.size) (o := 0) (v := .int .i64 b1) (by simp (maxDischargeDepth := 12) [go_sem, le1, lt1, *])
    have k4_11 := keep1 hb (b := W3.heap.size) (o := 1) (v := .int .i64 b2) (by simp (maxDischargeDepth := 12) [go_sem, le1, lt1, *])
    have z4 := fun o => keepz hb (b := W3.heap.size) (o := o) (by simp) (by simp (maxDischargeDepth := 12) [go_sem, le1, lt1, *])
    have HB4 := hide hb
    clear hb
    clear k3_0 k3_1 k3_2 k3_3 k3_4 k3_5 k3_6 k3_7 k3_8 k3_9 lak3_0 lbk3_0 lck3_0 ldk3_0 lek3_0 lak3_2 lbk3_2 lck3_2 ldk3_2 lek3_2 lak3_4 lbk3_4 lck3_4 ldk3_4 lek3_4 lak3_6 lbk3_6 lck3_6 ldk3_6 lek3_6 lak3_8 lbk3_8 lck3_8 ldk3_8 lek3_8
    have lak4_0 := cell_lt k4_0
    have lbk4_0 := Nat.le_of_lt lak4_0
    have lck4_0 := lt1 (k := 1) lak4_0
    have ldk4_0 := lt1 (k := 1) lck4_0
    have lek4_0 := lt1 (k := 1) ldk4_0
    have lnk4_0 := Nat.ne_of_lt lak4_0
    have lmk4_0 := (Nat.ne_of_lt lak4_0).symm
    have lak4_2 := cell_lt k4_2
    have lbk4_2 := Nat.le_of_lt lak4_2
    have lck4_2 := lt1 (k := 1) lak4_2
    have ldk4_2 := lt1 (k := 1) lck4_2
    have lek4_2 := lt1 (k := 1) ldk4_2
    have lnk4_2 := Nat.ne_of_lt lak4_2
    have lmk4_2 := (Nat.ne_of_lt lak4_2).symm
    have lak4_4 := cell_lt k4_4
    have lbk4_4 := Nat.le_of_lt lak4_4
    have lck4_4 := lt1 (k := 1) lak4_4
    have ldk4_4 := lt1 (k := 1) lck4_4
    have lek4_4 := lt1 (k := 1) ldk4_4
    have lnk4_4 := Nat.ne_of_lt lak4_4
    have lmk4_4 := (Nat.ne_of_lt lak4_4).symm
    have lak4_6 := cell_lt k4_6
    have lbk4_6 := Nat.le_of_lt lak4_6
    have lck4_6 := lt1 (k := 1) lak4_6
    have ldk4_6 := lt1 (k := 1) lck4_6
    have lek4_6 := lt1 (k := 1) ldk4_6
    have lnk4_6 := Nat.ne_of_lt lak4_6
    have lmk4_6 := (Nat.ne_of_lt lak4_6).symm
    have lak4_8 := cell_lt k4_8
    have lbk4_8 := Nat.le_of_lt lak4_8
    have lck4_8 := lt1 (k := 1) lak4_8
    have ldk4_8 := lt1 (k := 1) lck4_8
    have lek4_8 := lt1 (k := 1) ldk4_8
    have lnk4_8 := Nat.ne_of_lt lak4_8
    have lmk4_8 := (Nat.ne_of_lt lak4_8).symm
    have lak4_10 := cell_lt k4_10
    have lbk4_10 := Nat.le_of_lt lak4_10
    have lck4_10 := lt1 (k := 1) lak4_10
    have ldk4_10 := lt1 (k := 1) lck4_10
    have lek4_10 := lt1 (k := 1) ldk4_10
    have lnk4_10 := Nat.ne_of_lt lak4_10
    have lmk4_10 := (Nat.ne_of_lt lak4_10).symm
    have E4 : Hid (Below w.heap.size w W4) := by
      refine hide (bc ?_ (unhide HB4))
      refine ba ?_ _
      refine Below.setCell (Below.setCell ?_ (le_bel (bc (ba (ba (ba (ba (Below.refl w.heap.size w) _) _) _) _) (unhide HB1)) (unhide HB2)) _) (le_bel (bc (ba (ba (ba (ba (Below.refl w.heap.size w) _) _) _) _) (unhide HB1)) (unhide HB2)) _
      refine bc ?_ (unhide HB3)
      refine ba ?_ _
      refine bc ?_ (unhide HB2)
      refine bc ?_ (unhide HB1)
      exact ba (ba (ba (ba (Below.refl _ _) _) _) _) _
    have le4 : w.heap.size ≤ W3.heap.size := by
      have := (unhide HB1).size
      have := (unhide HB2).size
      have := (unhide HB3).size
      simp at *
      omega
    clear HB1 HB2 HB3 HB4 z3
    go_wp2_with fail
    refine (unhide L5 _).mono ?_
    rintro e W5 ⟨rfl, hb⟩
    have k5_0 := keep1 hb (b := W2.heap.size) (o := 0) (v := .int .i64 c1) (by simp (maxDischargeDepth := 12) [go_sem, le1, lt1, *])
    have k5_1 := keep1 hb (b := W2.heap.size) (o := 1) (v := .int .i64 c2) (by simp (maxDischargeDepth := 12) [go_sem, le1, lt1, *])
    have k5_2 := keep1 hb (b := W3.heap.size) (o := 0) (v := .int .i64 d1) (by simp (maxDischargeDepth := 12) [go_sem, le1, lt1, *])
    have k5_3 := keep1 hb (b := W3.heap.size) (o := 1) (v := .int .i64 d2) (by simp (maxDischargeDepth := 12) [go_sem, le1, lt1, *])
    have HB5 := hide hb
    clear hb
    clear k4_0 k4_1 k4_2 k4_3 k4_4 k4_5 k4_6 k4_7 k4_8 k4_9 k4_10 k4_11 lak4_0 lbk4_0 lck4_0 ldk4_0 lek4_0 lak4_2 lbk4_2 lck4_2 ldk4_2 lek4_2 lak4_4 lbk4_4 lck4_4 ldk4_4 lek4_4 lak4_6 lbk4_6 lck4_6 ldk4_6 lek4_6 lak4_8 lbk4_8 lck4_8 ldk4_8 lek4_8 lak4_10 lbk4_10 lck4_10 ldk4_10 lek4_10
    have lak5_0 := cell_lt k5_0
    have lbk5_0 := Nat.le_of_lt lak5_0
    have lck5_0 := lt1 (k := 1) lak5_0
    have ldk5_0 := lt1 (k := 1) lck5_0
    have lek5_0 := lt1 (k := 1) ldk5_0
    have lnk5_0 := Nat.ne_of_lt lak5_0
    have lmk5_0 := (Nat.ne_of_lt lak5_0).symm
    have lak5_2 := cell_lt k5_2
    have lbk5_2 := Nat.le_of_lt lak5_2
    have lck5_2 := lt1 (k := 1) lak5_2
    have ldk5_2 := lt1 (k := 1) lck5_2
    have lek5_2 := lt1 (k := 1) ldk5_2
    have lnk5_2 := Nat.ne_of_lt lak5_2
    have lmk5_2 := (Nat.ne_of_lt lak5_2).symm
    have E6 := hide (bc (Below.setCell (Below.setCell (unhide E4) le4 _) le4 _) (unhide HB5))
    clear E4 HB5
    go_wp2_with fail
    go_region_held3 (fun wx => wx.cell? ⟨W2.heap.size, 0, none⟩ = some (.int .i64 c1) ∧ wx.cell? ⟨W2.heap.size, 1, none⟩ = some (.int .i64 c2) ∧ wx.cell? ⟨W3.heap.size, 0, none⟩ = some (.int .i64 d1) ∧ wx.cell? ⟨W3.heap.size, 1, none⟩ = some (.int .i64 d2))
      (simp (maxDischargeDepth := 12) [go_sem, le1, lt1, *])
      (first
      | (go_at_call 80; refine (whole_ints _ _ _).mono ?_; rintro e w' ⟨rfl, rfl⟩))
    all_goals
      go_wp2_with fail
      go_ret
      refine ⟨⟨_, rfl, ?_, blk_at _ _ (by simp [World.drew])⟩, ?_⟩
      · repeat (first | exact (unhide E6).size | refine le1 ?_)
      · repeat (first | exact unhide E6 | refine ba ?_ _ | refine Below.drew ?_)
end Go.Proofs.Ytimkinpbimangaa

namespace Go.Proofs.Ytimkinpbimangaa
open Go.ChangeShapes Go.WideShapes Go.ChangeAt Go.RowKit
set_option linter.unusedVariables false
set_option linter.unusedSimpArgs false

set_option maxRecDepth 100000 in
set_option maxHeartbeats 2000000 in
theorem alongM_gt_ab (a1 a2 b1 b2 c1 c2 d1 d2 : Int) (w : World)
    (L1 : Hid (∀ W, Calls Try.prog 91 #[.agg #[.int .i64 b1, .int .i64 b2], .agg #[.int .i64 a1, .int .i64 a2]] W fun e w' => e = .returned (.bool false) ∧ Below W.heap.size W w'))
    (L2 : Hid (∀ W, Calls Try.prog 91 #[.agg #[.int .i64 d1, .int .i64 d2], .agg #[.int .i64 c1, .int .i64 c2]] W fun e w' => e = .returned (.bool false) ∧ Below W.heap.size W w'))
    (L3 : Hid (∀ W, Calls Try.prog 91 #[.agg #[.int .i64 a1, .int .i64 a2], .agg #[.int .i64 c1, .int .i64 c2]] W fun e w' => e = .returned (.bool false) ∧ Below W.heap.size W w'))
    (L4 : Hid (∀ W, Calls Try.prog 91 #[.agg #[.int .i64 d1, .int .i64 d2], .agg #[.int .i64 b1, .int .i64 b2]] W fun e w' => e = .returned (.bool false) ∧ Below W.heap.size W w'))
    (qq : (a1 == b1) = false ∨ (a1 == b1) = true ∧ (a2 == b2) = false)
    (L5 : Hid (∀ W, Calls Try.prog 91 #[.agg #[.int .i64 a1, .int .i64 a2], .agg #[.int .i64 b1, .int .i64 b2]] W fun e w' => e = .returned (.bool false) ∧ Below W.heap.size W w')) :
    Calls Try.prog 77 #[.agg #[.int .i64 a1, .int .i64 a2], .agg #[.int .i64 b1, .int .i64 b2], .agg #[.int .i64 c1, .int .i64 c2], .agg #[.int .i64 d1, .int .i64 d2]] w fun e w' => (∃ k, e = .returned (.slice (some ⟨k, 0, none⟩) 0 0) ∧ w.heap.size ≤ k ∧ w'.heap[k]? = some (.cells #[] 93 (0, 0))) ∧ Below w.heap.size w w' := by
  rcases qq with q1 | ⟨q1, q2⟩
  all_goals
    go_enter Try.func77, Try.ntmps77
    go_wp2_with fail
    refine (unhide L1 _).mono ?_
    rintro e W1 ⟨rfl, hb⟩
    have k1_0 := keep1 hb (b := w.heap.size) (o := 0) (v := .int .i64 a1) (by simp (maxDischargeDepth := 12) [go_sem, le1, lt1, *])
    have k1_1 := keep1 hb (b := w.heap.size) (o := 1) (v := .int .i64 a2) (by simp (maxDischargeDepth := 12) [go_sem, le1, lt1, *])
    have k1_2 := keep1 hb (b := w.heap.size + 1) (o := 0) (v := .int .i64 b1) (by simp (maxDischargeDepth := 12) [go_sem, le1, lt1, *])
    have k1_3 := keep1 hb (b := w.heap.size + 1) (o := 1) (v := .int .i64 b2) (by simp (maxDischargeDepth := 12) [go_sem, le1, lt1, *])
    have k1_4 := keep1 hb (b := w.heap.size + 1 + 1) (o := 0) (v := .int .i64 c1) (by simp (maxDischargeDepth := 12) [go_sem, le1, lt1, *])
    have k1_5 := keep1 hb (b := w.heap.size + 1 + 1) (o := 1) (v := .int .i64 c2) (by simp (maxDischargeDepth := 12) [go_sem, le1, lt1, *])
    have k1_6 := keep1 hb (b := w.heap.size + 1 + 1 + 1) (o := 0) (v := .int .i64 d1) (by simp (maxDischargeDepth := 12) [go_sem, le1, lt1, *])
    have k1_7 := keep1 hb (b := w.heap.size + 1 + 1 + 1) (o := 1) (v := .int .i64 d2) (by simp (maxDischargeDepth := 12) [go_sem, le1, lt1, *])
    have HB1 := hide hb
    clear hb
    have lak1_0 := cell_lt k1_0
    have lbk1_0 := Nat.le_of_lt lak1_0
    have lck1_0 := lt1 (k := 1) lak1_0
    have ldk1_0 := lt1 (k := 1) lck1_0
    have lek1_0 := lt1 (k := 1) ldk1_0
    have lnk1_0 := Nat.ne_of_lt lak1_0
    have lmk1_0 := (Nat.ne_of_lt lak1_0).symm
    have lak1_2 := cell_lt k1_2
    have lbk1_2 := Nat.le_of_lt lak1_2
    have lck1_2 := lt1 (k := 1) lak1_2
    have ldk1_2 := lt1 (k := 1) lck1_2
    have lek1_2 := lt1 (k := 1) ldk1_2
    have lnk1_2 := Nat.ne_of_lt lak1_2
    have lmk1_2 := (Nat.ne_of_lt lak1_2).symm
    have lak1_4 := cell_lt k1_4
    have lbk1_4 := Nat.le_of_lt lak1_4
    have lck1_4 := lt1 (k := 1) lak1_4
    have ldk1_4 := lt1 (k := 1) lck1_4
    have lek1_4 := lt1 (k := 1) ldk1_4
    have lnk1_4 := Nat.ne_of_lt lak1_4
    have lmk1_4 := (Nat.ne_of_lt lak1_4).symm
    have lak1_6 := cell_lt k1_6
    have lbk1_6 := Nat.le_of_lt lak1_6
    have lck1_6 := lt1 (k := 1) lak1_6
    have ldk1_6 := lt1 (k := 1) lck1_6
    have lek1_6 := lt1 (k := 1) ldk1_6
    have lnk1_6 := Nat.ne_of_lt lak1_6
    have lmk1_6 := (Nat.ne_of_lt lak1_6).symm
    go_wp2_with fail
    refine (unhide L2 _).mono ?_
    rintro e W2 ⟨rfl, hb⟩
    have k2_0 := keep1 hb (b := w.heap.size) (o := 0) (v := .int .i64 a1) (by simp (maxDischargeDepth := 12) [go_sem, le1, lt1, *])
    have k2_1 := keep1 hb (b := w.heap.size) (o := 1) (v := .int .i64 a2) (by simp (maxDischargeDepth := 12) [go_sem, le1, lt1, *])
    have k2_2 := keep1 hb (b := w.heap.size + 1) (o := 0) (v := .int .i64 b1) (by simp (maxDischargeDepth := 12) [go_sem, le1, lt1, *])
    have k2_3 := keep1 hb (b := w.heap.size + 1) (o := 1) (v := .int .i64 b2) (by simp (maxDischargeDepth := 12) [go_sem, le1, lt1, *])
    have k2_4 := keep1 hb (b := w.heap.size + 1 + 1) (o := 0) (v := .int .i64 c1) (by simp (maxDischargeDepth := 12) [go_sem, le1, lt1, *])
    have k2_5 := keep1 hb (b := w.heap.size + 1 + 1) (o := 1) (v := .int .i64 c2) (by simp (maxDischargeDepth := 12) [go_sem, le1, lt1, *])
    have k2_6 := keep1 hb (b := w.heap.size + 1 + 1 + 1) (o := 0) (v := .int .i64 d1) (by simp (maxDischargeDepth := 12) [go_sem, le1, lt1, *])
    have k2_7 := keep1 hb (b := w.heap.size + 1 + 1 + 1) (o := 1) (v := .int .i64 d2) (by simp (maxDischargeDepth := 12) [go_sem, le1, lt1, *])
    have HB2 := hide hb
    clear hb
    clear k1_0 k1_1 k1_2 k1_3 k1_4 k1_5 k1_6 k1_7 lak1_0 lbk1_0 lck1_0 ldk1_0 lek1_0 lak1_2 lbk1_2 lck1_2 ldk1_2 lek1_2 lak1_4 lbk1_4 lck1_4 ldk1_4 lek1_4 lak1_6 lbk1_6 lck1_6 ldk1_6 lek1_6
    have lak2_0 := cell_lt k2_0
    have lbk2_0 := Nat.le_of_lt lak2_0
    have lck2_0 := lt1 (k := 1) lak2_0
    have ldk2_0 := lt1 (k := 1) lck2_0
    have lek2_0 := lt1 (k := 1) ldk2_0
    have lnk2_0 := Nat.ne_of_lt lak2_0
    have lmk2_0 := (Nat.ne_of_lt lak2_0).symm
    have lak2_2 := cell_lt k2_2
    have lbk2_2 := Nat.le_of_lt lak2_2
    have lck2_2 := lt1 (k := 1) lak2_2
    have ldk2_2 := lt1 (k := 1) lck2_2
    have lek2_2 := lt1 (k := 1) ldk2_2
    have lnk2_2 := Nat.ne_of_lt lak2_2
    have lmk2_2 := (Nat.ne_of_lt lak2_2).symm
    have lak2_4 := cell_lt k2_4
    have lbk2_4 := Nat.le_of_lt lak2_4
    have lck2_4 := lt1 (k := 1) lak2_4
    have ldk2_4 := lt1 (k := 1) lck2_4
    have lek2_4 := lt1 (k := 1) ldk2_4
    have lnk2_4 := Nat.ne_of_lt lak2_4
    have lmk2_4 := (Nat.ne_of_lt lak2_4).symm
    have lak2_6 := cell_lt k2_6
    have lbk2_6 := Nat.le_of_lt lak2_6
    have lck2_6 := lt1 (k := 1) lak2_6
    have ldk2_6 := lt1 (k := 1) lck2_6
    have lek2_6 := lt1 (k := 1) ldk2_6
    have lnk2_6 := Nat.ne_of_lt lak2_6
    have lmk2_6 := (Nat.ne_of_lt lak2_6).symm
    go_wp2_with fail
    refine (unhide L3 _).mono ?_
    rintro e W3 ⟨rfl, hb⟩
    have k3_0 := keep1 hb (b := w.heap.size) (o := 0) (v := .int .i64 a1) (by simp (maxDischargeDepth := 12) [go_sem, le1, lt1, *])
    have k3_1 := keep1 hb (b := w.heap.size) (o := 1) (v := .int .i64 a2) (by simp (maxDischargeDepth := 12) [go_sem, le1, lt1, *])
    have k3_2 := keep1 hb (b := w.heap.size + 1) (o := 0) (v := .int .i64 b1) (by simp (maxDischargeDepth := 12) [go_sem, le1, lt1, *])
    have k3_3 := keep1 hb (b := w.heap.size + 1) (o := 1) (v := .int .i64 b2) (by simp (maxDischargeDepth := 12) [go_sem, le1, lt1, *])
    have k3_4 := keep1 hb (b := w.heap.size + 1 + 1) (o := 0) (v := .int .i64 c1) (by simp (maxDischargeDepth := 12) [go_sem, le1, lt1, *])
    have k3_5 := keep1 hb (b := w.heap.size + 1 + 1) (o := 1) (v := .int .i64 c2) (by simp (maxDischargeDepth := 12) [go_sem, le1, lt1, *])
    have k3_6 := keep1 hb (b := w.heap.size + 1 + 1 + 1) (o := 0) (v := .int .i64 d1) (by simp (maxDischargeDepth := 12) [go_sem, le1, lt1, *])
    have k3_7 := keep1 hb (b := w.heap.size + 1 + 1 + 1) (o := 1) (v := .int .i64 d2) (by simp (maxDischargeDepth := 12) [go_sem, le1, lt1, *])
    have k3_8 := keep1 hb (b := W2.heap.size) (o := 0) (v := .int .i64 a1) (by simp (maxDischargeDepth := 12) [go_sem, le1, lt1, *])
    have k3_9 := keep1 hb (b := W2.heap.size) (o := 1) (v := .int .i64 a2) (by simp (maxDischargeDepth := 12) [go_sem, le1, lt1, *])
    have z3 := fun o => keepz hb (b := W2.heap.size) (o := o) (by simp) (by simp (maxDischargeDepth := 12) [go_sem, le1, lt1, *])
    have HB3 := hide hb
    clear hb
    clear k2_0 k2_1 k2_2 k2_3 k2_4 k2_5 k2_6 k2_7 lak2_0 lbk2_0 lck2_0 ldk2_0 lek2_0 lak2_2 lbk2_2 lck2_2 ldk2_2 lek2_2 lak2_4 lbk2_4 lck2_4 ldk2_4 lek2_4 lak2_6 lbk2_6 lck2_6 ldk2_6 lek2_6
    have lak3_0 := cell_lt k3_0
    have lbk3_0 := Nat.le_of_lt lak3_0
    have lck3_0 := lt1 (k := 1) lak3_0
    have ldk3_0 := lt1 (k := 1) lck3_0
    have lek3_0 := lt1 (k := 1) ldk3_0
    have lnk3_0 := Nat.ne_of_lt lak3_0
    have lmk3_0 := (Nat.ne_of_lt lak3_0).symm
    have lak3_2 := cell_lt k3_2
    have lbk3_2 := Nat.le_of_lt lak3_2
    have lck3_2 := lt1 (k := 1) lak3_2
    have ldk3_2 := lt1 (k := 1) lck3_2
    have lek3_2 := lt1 (k := 1) ldk3_2
    have lnk3_2 := Nat.ne_of_lt lak3_2
    have lmk3_2 := (Nat.ne_of_lt lak3_2).symm
    have lak3_4 := cell_lt k3_4
    have lbk3_4 := Nat.le_of_lt lak3_4
    have lck3_4 := lt1 (k := 1) lak3_4
    have ldk3_4 := lt1 (k := 1) lck3_4
    have lek3_4 := lt1 (k := 1) ldk3_4
    have lnk3_4 := Nat.ne_of_lt lak3_4
    have lmk3_4 := (Nat.ne_of_lt lak3_4).symm
    have lak3_6 := cell_lt k3_6
    have lbk3_6 := Nat.le_of_lt lak3_6
    have lck3_6 := lt1 (k := 1) lak3_6
    have ldk3_6 := lt1 (k := 1) lck3_6
    have lek3_6 := lt1 (k := 1) ldk3_6
    have lnk3_6 := Nat.ne_of_lt lak3_6
    have lmk3_6 := (Nat.ne_of_lt lak3_6).symm
    have lak3_8 := cell_lt k3_8
    have lbk3_8 := Nat.le_of_lt lak3_8
    have lck3_8 := lt1 (k := 1) lak3_8
    have ldk3_8 := lt1 (k := 1) lck3_8
    have lek3_8 := lt1 (k := 1) ldk3_8
    have lnk3_8 := Nat.ne_of_lt lak3_8
    have lmk3_8 := (Nat.ne_of_lt lak3_8).symm
    go_wp2_with fail
    refine (unhide L4 _).mono ?_
    rintro e W4 ⟨rfl, hb⟩
    have k4_0 := keep1 hb (b := w.heap.size) (o := 0) (v := .int .i64 a1) (by simp (maxDischargeDepth := 12) [go_sem, le1, lt1, *])
    have k4_1 := keep1 hb (b := w.heap.size) (o := 1) (v := .int .i64 a2) (by simp (maxDischargeDepth := 12) [go_sem, le1, lt1, *])
    have k4_2 := keep1 hb (b := w.heap.size + 1) (o := 0) (v := .int .i64 b1) (by simp (maxDischargeDepth := 12) [go_sem, le1, lt1, *])
    have k4_3 := keep1 hb (b := w.heap.size + 1) (o := 1) (v := .int .i64 b2) (by simp (maxDischargeDepth := 12) [go_sem, le1, lt1, *])
    have k4_4 := keep1 hb (b := w.heap.size + 1 + 1) (o := 0) (v := .int .i64 c1) (by simp (maxDischargeDepth := 12) [go_sem, le1, lt1, *])
    have k4_5 := keep1 hb (b := w.heap.size + 1 + 1) (o := 1) (v := .int .i64 c2) (by simp (maxDischargeDepth := 12) [go_sem, le1, lt1, *])
    have k4_6 := keep1 hb (b := w.heap.size + 1 + 1 + 1) (o := 0) (v := .int .i64 d1) (by simp (maxDischargeDepth := 12) [go_sem, le1, lt1, *])
    have k4_7 := keep1 hb (b := w.heap.size + 1 + 1 + 1) (o := 1) (v := .int .i64 d2) (by simp (maxDischargeDepth := 12) [go_sem, le1, lt1, *])
    have k4_8 := keep1 hb (b := W2.heap.size) (o := 0) (v := .int .i64 a1) (by simp (maxDischargeDepth := 12) [go_sem, le1, lt1, *])
    have k4_9 := keep1 hb (b := W2.heap.size) (o := 1) (v := .int .i64 a2) (by simp (maxDischargeDepth := 12) [go_sem, le1, lt1, *])
    have k4_10 := keep1 hb (b := W3.heap.size) (o := 0) (v := .int .i64 b1) (by simp (maxDischargeDepth := 12) [go_sem, le1, lt1, *])
    have k4_11 := keep1 hb (b := W3.heap.size) (o := 1) (v := .int .i64 b2) (by simp (maxDischargeDepth := 12) [go_sem, le1, lt1, *])
    have z4 := fun o => keepz hb (b := W3.heap.size) (o := o) (by simp) (by simp (maxDischargeDepth := 12) [go_sem, le1, lt1, *])
    have HB4 := hide hb
    clear hb
    clear k3_0 k3_1 k3_2 k3_3 k3_4 k3_5 k3_6 k3_7 k3_8 k3_9 lak3_0 lbk3_0 lck3_0 ldk3_0 lek3_0 lak3_2 lbk3_2 lck3_2 ldk3_2 lek3_2 lak3_4 lbk3_4 lck3_4 ldk3_4 lek3_4 lak3_6 lbk3_6 lck3_6 ldk3_6 lek3_6 lak3_8 lbk3_8 lck3_8 ldk3_8 lek3_8
    have lak4_0 := cell_lt k4_0
    have lbk4_0 := Nat.le_of_lt lak4_0
    have lck4_0 := lt1 (k := 1) lak4_0
    have ldk4_0 := lt1 (k := 1) lck4_0
    have lek4_0 := lt1 (k := 1) ldk4_0
    have lnk4_0 := Nat.ne_of_lt lak4_0
    have lmk4_0 := (Nat.ne_of_lt lak4_0).symm
    have lak4_2 := cell_lt k4_2
    have lbk4_2 := Nat.le_of_lt lak4_2
    have lck4_2 := lt1 (k := 1) lak4_2
    have ldk4_2 := lt1 (k := 1) lck4_2
    have lek4_2 := lt1 (k := 1) ldk4_2
    have lnk4_2 := Nat.ne_of_lt lak4_2
    have lmk4_2 := (Nat.ne_of_lt lak4_2).symm
    have lak4_4 := cell_lt k4_4
    have lbk4_4 := Nat.le_of_lt lak4_4
    have lck4_4 := lt1 (k := 1) lak4_4
    have ldk4_4 := lt1 (k := 1) lck4_4
    have lek4_4 := lt1 (k := 1) ldk4_4
    have lnk4_4 := Nat.ne_of_lt lak4_4
    have lmk4_4 := (Nat.ne_of_lt lak4_4).symm
    have lak4_6 := cell_lt k4_6
    have lbk4_6 := Nat.le_of_lt lak4_6
    have lck4_6 := lt1 (k := 1) lak4_6
    have ldk4_6 := lt1 (k := 1) lck4_6
    have lek4_6 := lt1 (k := 1) ldk4_6
    have lnk4_6 := Nat.ne_of_lt lak4_6
    have lmk4_6 := (Nat.ne_of_lt lak4_6).symm
    have lak4_8 := cell_lt k4_8
    have lbk4_8 := Nat.le_of_lt lak4_8
    have lck4_8 := lt1 (k := 1) lak4_8
    have ldk4_8 := lt1 (k := 1) lck4_8
    have lek4_8 := lt1 (k := 1) ldk4_8
    have lnk4_8 := Nat.ne_of_lt lak4_8
    have lmk4_8 := (Nat.ne_of_lt lak4_8).symm
    have lak4_10 := cell_lt k4_10
    have lbk4_10 := Nat.le_of_lt lak4_10
    have lck4_10 := lt1 (k := 1) lak4_10
    have ldk4_10 := lt1 (k := 1) lck4_10
    have lek4_10 := lt1 (k := 1) ldk4_10
    have lnk4_10 := Nat.ne_of_lt lak4_10
    have lmk4_10 := (Nat.ne_of_lt lak4_10).symm
    have E4 : Hid (Below w.heap.size w W4) := by
      refine hide (bc ?_ (unhide HB4))
      refine ba ?_ _
      refine bc ?_ (unhide HB3)
      refine ba ?_ _
      refine bc ?_ (unhide HB2)
      refine bc ?_ (unhide HB1)
      exact ba (ba (ba (ba (Below.refl _ _) _) _) _) _
    have le4 : w.heap.size ≤ W3.heap.size := by
      have := (unhide HB1).size
      have := (unhide HB2).size
      have := (unhide HB3).size
      simp at *
      omega
    clear HB1 HB2 HB3 HB4 z3
    go_wp2_with fail
    refine (unhide L5 _).mono ?_
    rintro e W5 ⟨rfl, hb⟩
    have HB5 := hide hb
    clear hb
    clear k4_0 k4_1 k4_2 k4_3 k4_4 k4_5 k4_6 k4_7 k4_8 k4_9 k4_10 k4_11 lak4_0 lbk4_0 lck4_0 ldk4_0 lek4_0 lak4_2 lbk4_2 lck4_2 ldk4_2 lek4_2 lak4_4 lbk4_4 lck4_4 ldk4_4 lek4_4 lak4_6 lbk4_6 lck4_6 ldk4_6 lek4_6 lak4_8 lbk4_8 lck4_8 ldk4_8 lek4_8 lak4_10 lbk4_10 lck4_10 ldk4_10 lek4_10
    have E6 := hide (bc (unhide E4) (unhide HB5))
    clear E4 HB5
    go_wp2_with fail
    go_ret
    exact ⟨⟨_, rfl, (unhide E6).size, blk_new _ _⟩, ba (unhide E6) _⟩

set_option maxRecDepth 100000 in
set_option maxHeartbeats 2000000 in
theorem alongM_gt_ad (a1 a2 b1 b2 c1 c2 d1 d2 : Int) (w : World)
    (L1 : Hid (∀ W, Calls Try.prog 91 #[.agg #[.int .i64 b1, .int .i64 b2], .agg #[.int .i64 a1, .int .i64 a2]] W fun e w' => e = .returned (.bool false) ∧ Below W.heap.size W w'))
    (L2 : Hid (∀ W, Calls Try.prog 91 #[.agg #[.int .i64 d1, .int .i64 d2], .agg #[.int .i64 c1, .int .i64 c2]] W fun e w' => e = .returned (.bool false) ∧ Below W.heap.size W w'))
    (L3 : Hid (∀ W, Calls Try.prog 91 #[.agg #[.int .i64 a1, .int .i64 a2], .agg #[.int .i64 c1, .int .i64 c2]] W fun e w' => e = .returned (.bool false) ∧ Below W.heap.size W w'))
    (L4 : Hid (∀ W, Calls Try.prog 91 #[.agg #[.int .i64 d1, .int .i64 d2], .agg #[.int .i64 b1, .int .i64 b2]] W fun e w' => e = .returned (.bool true) ∧ Below W.heap.size W w'))
    (qq : (a1 == d1) = false ∨ (a1 == d1) = true ∧ (a2 == d2) = false)
    (L5 : Hid (∀ W, Calls Try.prog 91 #[.agg #[.int .i64 a1, .int .i64 a2], .agg #[.int .i64 d1, .int .i64 d2]] W fun e w' => e = .returned (.bool false) ∧ Below W.heap.size W w')) :
    Calls Try.prog 77 #[.agg #[.int .i64 a1, .int .i64 a2], .agg #[.int .i64 b1, .int .i64 b2], .agg #[.int .i64 c1, .int .i64 c2], .agg #[.int .i64 d1, .int .i64 d2]] w fun e w' => (∃ k, e = .returned (.slice (some ⟨k, 0, none⟩) 0 0) ∧ w.heap.size ≤ k ∧ w'.heap[k]? = some (.cells #[] 93 (0, 0))) ∧ Below w.heap.size w w' := by
  rcases qq with q1 | ⟨q1, q2⟩
  all_goals
    go_enter Try.func77, Try.ntmps77
    go_wp2_with fail
    refine (unhide L1 _).mono ?_
    rintro e W1 ⟨rfl, hb⟩
    have k1_0 := keep1 hb (b := w.heap.size) (o := 0) (v := .int .i64 a1) (by simp (maxDischargeDepth := 12) [go_sem, le1, lt1, *])
    have k1_1 := keep1 hb (b := w.heap.size) (o := 1) (v := .int .i64 a2) (by simp (maxDischargeDepth := 12) [go_sem, le1, lt1, *])
    have k1_2 := keep1 hb (b := w.heap.size + 1) (o := 0) (v := .int .i64 b1) (by simp (maxDischargeDepth := 12) [go_sem, le1, lt1, *])
    have k1_3 := keep1 hb (b := w.heap.size + 1) (o := 1) (v := .int .i64 b2) (by simp (maxDischargeDepth := 12) [go_sem, le1, lt1, *])
    have k1_4 := keep1 hb (b := w.heap.size + 1 + 1) (o := 0) (v := .int .i64 c1) (by simp (maxDischargeDepth := 12) [go_sem, le1, lt1, *])
    have k1_5 := keep1 hb (b := w.heap.size + 1 + 1) (o := 1) (v := .int .i64 c2) (by simp (maxDischargeDepth := 12) [go_sem, le1, lt1, *])
    have k1_6 := keep1 hb (b := w.heap.size + 1 + 1 + 1) (o := 0) (v := .int .i64 d1) (by simp (maxDischargeDepth := 12) [go_sem, le1, lt1, *])
    have k1_7 := keep1 hb (b := w.heap.size + 1 + 1 + 1) (o := 1) (v := .int .i64 d2) (by simp (maxDischargeDepth := 12) [go_sem, le1, lt1, *])
    have HB1 := hide hb
    clear hb
    have lak1_0 := cell_lt k1_0
    have lbk1_0 := Nat.le_of_lt lak1_0
    have lck1_0 := lt1 (k := 1) lak1_0
    have ldk1_0 := lt1 (k := 1) lck1_0
    have lek1_0 := lt1 (k := 1) ldk1_0
    have lnk1_0 := Nat.ne_of_lt lak1_0
    have lmk1_0 := (Nat.ne_of_lt lak1_0).symm
    have lak1_2 := cell_lt k1_2
    have lbk1_2 := Nat.le_of_lt lak1_2
    have lck1_2 := lt1 (k := 1) lak1_2
    have ldk1_2 := lt1 (k := 1) lck1_2
    have lek1_2 := lt1 (k := 1) ldk1_2
    have lnk1_2 := Nat.ne_of_lt lak1_2
    have lmk1_2 := (Nat.ne_of_lt lak1_2).symm
    have lak1_4 := cell_lt k1_4
    have lbk1_4 := Nat.le_of_lt lak1_4
    have lck1_4 := lt1 (k := 1) lak1_4
    have ldk1_4 := lt1 (k := 1) lck1_4
    have lek1_4 := lt1 (k := 1) ldk1_4
    have lnk1_4 := Nat.ne_of_lt lak1_4
    have lmk1_4 := (Nat.ne_of_lt lak1_4).symm
    have lak1_6 := cell_lt k1_6
    have lbk1_6 := Nat.le_of_lt lak1_6
    have lck1_6 := lt1 (k := 1) lak1_6
    have ldk1_6 := lt1 (k := 1) lck1_6
    have lek1_6 := lt1 (k := 1) ldk1_6
    have lnk1_6 := Nat.ne_of_lt lak1_6
    have lmk1_6 := (Nat.ne_of_lt lak1_6).symm
    go_wp2_with fail
    refine (unhide L2 _).mono ?_
    rintro e W2 ⟨rfl, hb⟩
    have k2_0 := keep1 hb (b := w.heap.size) (o := 0) (v := .int .i64 a1) (by simp (maxDischargeDepth := 12) [go_sem, le1, lt1, *])
    have k2_1 := keep1 hb (b := w.heap.size) (o := 1) (v := .int .i64 a2) (by simp (maxDischargeDepth := 12) [go_sem, le1, lt1, *])
    have k2_2 := keep1 hb (b := w.heap.size + 1) (o := 0) (v := .int .i64 b1) (by simp (maxDischargeDepth := 12) [go_sem, le1, lt1, *])
    have k2_3 := keep1 hb (b := w.heap.size + 1) (o := 1) (v := .int .i64 b2) (by simp (maxDischargeDepth := 12) [go_sem, le1, lt1, *])
    have k2_4 := keep1 hb (b := w.heap.size + 1 + 1) (o := 0) (v := .int .i64 c1) (by simp (maxDischargeDepth := 12) [go_sem, le1, lt1, *])
    have k2_5 := keep1 hb (b := w.heap.size + 1 + 1) (o := 1) (v := .int .i64 c2) (by simp (maxDischargeDepth := 12) [go_sem, le1, lt1, *])
    have k2_6 := keep1 hb (b := w.heap.size + 1 + 1 + 1) (o := 0) (v := .int .i64 d1) (by simp (maxDischargeDepth := 12) [go_sem, le1, lt1, *])
    have k2_7 := keep1 hb (b := w.heap.size + 1 + 1 + 1) (o := 1) (v := .int .i64 d2) (by simp (maxDischargeDepth := 12) [go_sem, le1, lt1, *])
    have HB2 := hide hb
    clear hb
    clear k1_0 k1_1 k1_2 k1_3 k1_4 k1_5 k1_6 k1_7 lak1_0 lbk1_0 lck1_0 ldk1_0 lek1_0 lak1_2 lbk1_2 lck1_2 ldk1_2 lek1_2 lak1_4 lbk1_4 lck1_4 ldk1_4 lek1_4 lak1_6 lbk1_6 lck1_6 ldk1_6 lek1_6
    have lak2_0 := cell_lt k2_0
    have lbk2_0 := Nat.le_of_lt lak2_0
    have lck2_0 := lt1 (k := 1) lak2_0
    have ldk2_0 := lt1 (k := 1) lck2_0
    have lek2_0 := lt1 (k := 1) ldk2_0
    have lnk2_0 := Nat.ne_of_lt lak2_0
    have lmk2_0 := (Nat.ne_of_lt lak2_0).symm
    have lak2_2 := cell_lt k2_2
    have lbk2_2 := Nat.le_of_lt lak2_2
    have lck2_2 := lt1 (k := 1) lak2_2
    have ldk2_2 := lt1 (k := 1) lck2_2
    have lek2_2 := lt1 (k := 1) ldk2_2
    have lnk2_2 := Nat.ne_of_lt lak2_2
    have lmk2_2 := (Nat.ne_of_lt lak2_2).symm
    have lak2_4 := cell_lt k2_4
    have lbk2_4 := Nat.le_of_lt lak2_4
    have lck2_4 := lt1 (k := 1) lak2_4
    have ldk2_4 := lt1 (k := 1) lck2_4
    have lek2_4 := lt1 (k := 1) ldk2_4
    have lnk2_4 := Nat.ne_of_lt lak2_4
    have lmk2_4 := (Nat.ne_of_lt lak2_4).symm
    have lak2_6 := cell_lt k2_6
    have lbk2_6 := Nat.le_of_lt lak2_6
    have lck2_6 := lt1 (k := 1) lak2_6
    have ldk2_6 := lt1 (k := 1) lck2_6
    have lek2_6 := lt1 (k := 1) ldk2_6
    have lnk2_6 := Nat.ne_of_lt lak2_6
    have lmk2_6 := (Nat.ne_of_lt lak2_6).symm
    go_wp2_with fail
    refine (unhide L3 _).mono ?_
    rintro e W3 ⟨rfl, hb⟩
    have k3_0 := keep1 hb (b := w.heap.size) (o := 0) (v := .int .i64 a1) (by simp (maxDischargeDepth := 12) [go_sem, le1, lt1, *])
    have k3_1 := keep1 hb (b := w.heap.size) (o := 1) (v := .int .i64 a2) (by simp (maxDischargeDepth := 12) [go_sem, le1, lt1, *])
    have k3_2 := keep1 hb (b := w.heap.size + 1) (o := 0) (v := .int .i64 b1) (by simp (maxDischargeDepth := 12) [go_sem, le1, lt1, *])
    have k3_3 := keep1 hb (b := w.heap.size + 1) (o := 1) (v := .int .i64 b2) (by simp (maxDischargeDepth := 12) [go_sem, le1, lt1, *])
    have k3_4 := keep1 hb (b := w.heap.size + 1 + 1) (o := 0) (v := .int .i64 c1) (by simp (maxDischargeDepth := 12) [go_sem, le1, lt1, *])
    have k3_5 := keep1 hb (b := w.heap.size + 1 + 1) (o := 1) (v := .int .i64 c2) (by simp (maxDischargeDepth := 12) [go_sem, le1, lt1, *])
    have k3_6 := keep1 hb (b := w.heap.size + 1 + 1 + 1) (o := 0) (v := .int .i64 d1) (by simp (maxDischargeDepth := 12) [go_sem, le1, lt1, *])
    have k3_7 := keep1 hb (b := w.heap.size + 1 + 1 + 1) (o := 1) (v := .int .i64 d2) (by simp (maxDischargeDepth := 12) [go_sem, le1, lt1, *])
    have k3_8 := keep1 hb (b := W2.heap.size) (o := 0) (v := .int .i64 a1) (by simp (maxDischargeDepth := 12) [go_sem, le1, lt1, *])
    have k3_9 := keep1 hb (b := W2.heap.size) (o := 1) (v := .int .i64 a2) (by simp (maxDischargeDepth := 12) [go_sem, le1, lt1, *])
    have z3 := fun o => keepz hb (b := W2.heap.size) (o := o) (by simp) (by simp (maxDischargeDepth := 12) [go_sem, le1, lt1, *])
    have HB3 := hide hb
    clear hb
    clear k2_0 k2_1 k2_2 k2_3 k2_4 k2_5 k2_6 k2_7 lak2_0 lbk2_0 lck2_0 ldk2_0 lek2_0 lak2_2 lbk2_2 lck2_2 ldk2_2 lek2_2 lak2_4 lbk2_4 lck2_4 ldk2_4 lek2_4 lak2_6 lbk2_6 lck2_6 ldk2_6 lek2_6
    have lak3_0 := cell_lt k3_0
    have lbk3_0 := Nat.le_of_lt lak3_0
    have lck3_0 := lt1 (k := 1) lak3_0
    have ldk3_0 := lt1 (k := 1) lck3_0
    have lek3_0 := lt1 (k := 1) ldk3_0
    have lnk3_0 := Nat.ne_of_lt lak3_0
    have lmk3_0 := (Nat.ne_of_lt lak3_0).symm
    have lak3_2 := cell_lt k3_2
    have lbk3_2 := Nat.le_of_lt lak3_2
    have lck3_2 := lt1 (k := 1) lak3_2
    have ldk3_2 := lt1 (k := 1) lck3_2
    have lek3_2 := lt1 (k := 1) ldk3_2
    have lnk3_2 := Nat.ne_of_lt lak3_2
    have lmk3_2 := (Nat.ne_of_lt lak3_2).symm
    have lak3_4 := cell_lt k3_4
    have lbk3_4 := Nat.le_of_lt lak3_4
    have lck3_4 := lt1 (k := 1) lak3_4
    have ldk3_4 := lt1 (k := 1) lck3_4
    have lek3_4 := lt1 (k := 1) ldk3_4
    have lnk3_4 := Nat.ne_of_lt lak3_4
    have lmk3_4 := (Nat.ne_of_lt lak3_4).symm
    have lak3_6 := cell_lt k3_6
    have lbk3_6 := Nat.le_of_lt lak3_6
    have lck3_6 := lt1 (k := 1) lak3_6
    have ldk3_6 := lt1 (k := 1) lck3_6
    have lek3_6 := lt1 (k := 1) ldk3_6
    have lnk3_6 := Nat.ne_of_lt lak3_6
    have lmk3_6 := (Nat.ne_of_lt lak3_6).symm
    have lak3_8 := cell_lt k3_8
    have lbk3_8 := Nat.le_of_lt lak3_8
    have lck3_8 := lt1 (k := 1) lak3_8
    have ldk3_8 := lt1 (k := 1) lck3_8
    have lek3_8 := lt1 (k := 1) ldk3_8
    have lnk3_8 := Nat.ne_of_lt lak3_8
    have lmk3_8 := (Nat.ne_of_lt lak3_8).symm
    go_wp2_with fail
    refine (unhide L4 _).mono ?_
    rintro e W4 ⟨rfl, hb⟩
    have k4_0 := keep1 hb (b := w.heap.size) (o := 0) (v := .int .i64 a1) (by simp (maxDischargeDepth := 12) [go_sem, le1, lt1, *])
    have k4_1 := keep1 hb (b := w.heap.size) (o := 1) (v := .int .i64 a2) (by simp (maxDischargeDepth := 12) [go_sem, le1, lt1, *])
    have k4_2 := keep1 hb (b := w.heap.size + 1) (o := 0) (v := .int .i64 b1) (by simp (maxDischargeDepth := 12) [go_sem, le1, lt1, *])
    have k4_3 := keep1 hb (b := w.heap.size + 1) (o := 1) (v := .int .i64 b2) (by simp (maxDischargeDepth := 12) [go_sem, le1, lt1, *])
    have k4_4 := keep1 hb (b := w.heap.size + 1 + 1) (o := 0) (v := .int .i64 c1) (by simp (maxDischargeDepth := 12) [go_sem, le1, lt1, *])
    have k4_5 := keep1 hb (b := w.heap.size + 1 + 1) (o := 1) (v := .int .i64 c2) (by simp (maxDischargeDepth := 12) [go_sem, le1, lt1, *])
    have k4_6 := keep1 hb (b := w.heap.size + 1 + 1 + 1) (o := 0) (v := .int .i64 d1) (by simp (maxDischargeDepth := 12) [go_sem, le1, lt1, *])
    have k4_7 := keep1 hb (b := w.heap.size + 1 + 1 + 1) (o := 1) (v := .int .i64 d2) (by simp (maxDischargeDepth := 12) [go_sem, le1, lt1, *])
    have k4_8 := keep1 hb (b := W2.heap.size) (o := 0) (v := .int .i64 a1) (by simp (maxDischargeDepth := 12) [go_sem, le1, lt1, *])
    have k4_9 := keep1 hb (b := W2.heap.size) (o := 1) (v := .int .i64 a2) (by simp (maxDischargeDepth := 12) [go_sem, le1, lt1, *])
    have k4_10 := keep1 hb (b := W3.heap.size) (o := 0) (v := .int .i64 b1) (by simp (maxDischargeDepth := 12) [go_sem, le1, lt1, *])
    have k4_11 := keep1 hb (b := W3.heap.size) (o := 1) (v := .int .i64 b2) (by simp (maxDischargeDepth := 12) [go_sem, le1, lt1, *])
    have z4 := fun o => keepz hb (b := W3.heap.size) (o := o) (by simp) (by simp (maxDischargeDepth := 12) [go_sem, le1, lt1, *])
    have HB4 := hide hb
    clear hb
    clear k3_0 k3_1 k3_2 k3_3 k3_4 k3_5 k3_6 k3_7 k3_8 k3_9 lak3_0 lbk3_0 lck3_0 ldk3_0 lek3_0 lak3_2 lbk3_2 lck3_2 ldk3_2 lek3_2 lak3_4 lbk3_4 lck3_4 ldk3_4 lek3_4 lak3_6 lbk3_6 lck3_6 ldk3_6 lek3_6 lak3_8 lbk3_8 lck3_8 ldk3_8 lek3_8
    have lak4_0 := cell_lt k4_0
    have lbk4_0 := Nat.le_of_lt lak4_0
    have lck4_0 := lt1 (k := 1) lak4_0
    have ldk4_0 := lt1 (k := 1) lck4_0
    have lek4_0 := lt1 (k := 1) ldk4_0
    have lnk4_0 := Nat.ne_of_lt lak4_0
    have lmk4_0 := (Nat.ne_of_lt lak4_0).symm
    have lak4_2 := cell_lt k4_2
    have lbk4_2 := Nat.le_of_lt lak4_2
    have lck4_2 := lt1 (k := 1) lak4_2
    have ldk4_2 := lt1 (k := 1) lck4_2
    have lek4_2 := lt1 (k := 1) ldk4_2
    have lnk4_2 := Nat.ne_of_lt lak4_2
    have lmk4_2 := (Nat.ne_of_lt lak4_2).symm
    have lak4_4 := cell_lt k4_4
    have lbk4_4 := Nat.le_of_lt lak4_4
    have lck4_4 := lt1 (k := 1) lak4_4
    have ldk4_4 := lt1 (k := 1) lck4_4
    have lek4_4 := lt1 (k := 1) ldk4_4
    have lnk4_4 := Nat.ne_of_lt lak4_4
    have lmk4_4 := (Nat.ne_of_lt lak4_4).symm
    have lak4_6 := cell_lt k4_6
    have lbk4_6 := Nat.le_of_lt lak4_6
    have lck4_6 := lt1 (k := 1) lak4_6
    have ldk4_6 := lt1 (k := 1) lck4_6
    have lek4_6 := lt1 (k := 1) ldk4_6
    have lnk4_6 := Nat.ne_of_lt lak4_6
    have lmk4_6 := (Nat.ne_of_lt lak4_6).symm
    have lak4_8 := cell_lt k4_8
    have lbk4_8 := Nat.le_of_lt lak4_8
    have lck4_8 := lt1 (k := 1) lak4_8
    have ldk4_8 := lt1 (k := 1) lck4_8
    have lek4_8 := lt1 (k := 1) ldk4_8
    have lnk4_8 := Nat.ne_of_lt lak4_8
    have lmk4_8 := (Nat.ne_of_lt lak4_8).symm
    have lak4_10 := cell_lt k4_10
    have lbk4_10 := Nat.le_of_lt lak4_10
    have lck4_10 := lt1 (k := 1) lak4_10
    have ldk4_10 := lt1 (k := 1) lck4_10
    have lek4_10 := lt1 (k := 1) ldk4_10
    have lnk4_10 := Nat.ne_of_lt lak4_10
    have lmk4_10 := (Nat.ne_of_lt lak4_10).symm
    have E4 : Hid (Below w.heap.size w W4) := by
      refine hide (bc ?_ (unhide HB4))
      refine ba ?_ _
      refine bc ?_ (unhide HB3)
      refine ba ?_ _
      refine bc ?_ (unhide HB2)
      refine bc ?_ (unhide HB1)
      exact ba (ba (ba (ba (Below.refl _ _) _) _) _) _
    have le4 : w.heap.size ≤ W3.heap.size := by
      have := (unhide HB1).size
      have := (unhide HB2).size
      have := (unhide HB3).size
      simp at *
      omega
    clear HB1 HB2 HB3 HB4 z3
    go_wp2_with fail
    refine (unhide L5 _).mono ?_
    rintro e W5 ⟨rfl, hb⟩
    have HB5 := hide hb
    clear hb
    clear k4_0 k4_1 k4_2 k4_3 k4_4 k4_5 k4_6 k4_7 k4_8 k4_9 k4_10 k4_11 lak4_0 lbk4_0 lck4_0 ldk4_0 lek4_0 lak4_2 lbk4_2 lck4_2 ldk4_2 lek4_2 lak4_4 lbk4_4 lck4_4 ldk4_4 lek4_4 lak4_6 lbk4_6 lck4_6 ldk4_6 lek4_6 lak4_8 lbk4_8 lck4_8 ldk4_8 lek4_8 lak4_10 lbk4_10 lck4_10 ldk4_10 lek4_10
    have E6 := hide (bc (Below.setCell (Below.setCell (unhide E4) le4 _) le4 _) (unhide HB5))
    clear E4 HB5
    go_wp2_with fail
    go_ret
    exact ⟨⟨_, rfl, (unhide E6).size, blk_new _ _⟩, ba (unhide E6) _⟩

set_option maxRecDepth 100000 in
set_option maxHeartbeats 2000000 in
theorem alongM_gt_cb (a1 a2 b1 b2 c1 c2 d1 d2 : Int) (w : World)
    (L1 : Hid (∀ W, Calls Try.prog 91 #[.agg #[.int .i64 b1, .int .i64 b2], .agg #[.int .i64 a1, .int .i64 a2]] W fun e w' => e = .returned (.bool false) ∧ Below W.heap.size W w'))
    (L2 : Hid (∀ W, Calls Try.prog 91 #[.agg #[.int .i64 d1, .int .i64 d2], .agg #[.int .i64 c1, .int .i64 c2]] W fun e w' => e = .returned (.bool false) ∧ Below W.heap.size W w'))
    (L3 : Hid (∀ W, Calls Try.prog 91 #[.agg #[.int .i64 a1, .int .i64 a2], .agg #[.int .i64 c1, .int .i64 c2]] W fun e w' => e = .returned (.bool true) ∧ Below W.heap.size W w'))
    (L4 : Hid (∀ W, Calls Try.prog 91 #[.agg #[.int .i64 d1, .int .i64 d2], .agg #[.int .i64 b1, .int .i64 b2]] W fun e w' => e = .returned (.bool false) ∧ Below W.heap.size W w'))
    (qq : (c1 == b1) = false ∨ (c1 == b1) = true ∧ (c2 == b2) = false)
    (L5 : Hid (∀ W, Calls Try.prog 91 #[.agg #[.int .i64 c1, .int .i64 c2], .agg #[.int .i64 b1, .int .i64 b2]] W fun e w' => e = .returned (.bool false) ∧ Below W.heap.size W w')) :
    Calls Try.prog 77 #[.agg #[.int .i64 a1, .int .i64 a2], .agg #[.int .i64 b1, .int .i64 b2], .agg #[.int .i64 c1, .int .i64 c2], .agg #[.int .i64 d1, .int .i64 d2]] w fun e w' => (∃ k, e = .returned (.slice (some ⟨k, 0, none⟩) 0 0) ∧ w.heap.size ≤ k ∧ w'.heap[k]? = some (.cells #[] 93 (0, 0))) ∧ Below w.heap.size w w' := by
  rcases qq with q1 | ⟨q1, q2⟩
  all_goals
    go_enter Try.func77, Try.ntmps77
    go_wp2_with fail
    refine (unhide L1 _).mono ?_
    rintro e W1 ⟨rfl, hb⟩
    have k1_0 := keep1 hb (b := w.heap.size) (o := 0) (v := .int .i64 a1) (by simp (maxDischargeDepth := 12) [go_sem, le1, lt1, *])
    have k1_1 := keep1 hb (b := w.heap.size) (o := 1) (v := .int .i64 a2) (by simp (maxDischargeDepth := 12) [go_sem, le1, lt1, *])
    have k1_2 := keep1 hb (b := w.heap.size + 1) (o := 0) (v := .int .i64 b1) (by simp (maxDischargeDepth := 12) [go_sem, le1, lt1, *])
    have k1_3 := keep1 hb (b := w.heap.size + 1) (o := 1) (v := .int .i64 b2) (by simp (maxDischargeDepth := 12) [go_sem, le1, lt1, *])
    have k1_4 := keep1 hb (b := w.heap.size + 1 + 1) (o := 0) (v := .int .i64 c1) (by simp (maxDischargeDepth := 12) [go_sem, le1, lt1, *])
    have k1_5 := keep1 hb (b := w.heap.size + 1 + 1) (o := 1) (v := .int .i64 c2) (by simp (maxDischargeDepth := 12) [go_sem, le1, lt1, *])
    have k1_6 := keep1 hb (b := w.heap.size + 1 + 1 + 1) (o := 0) (v := .int .i64 d1) (by simp (maxDischargeDepth := 12) [go_sem, le1, lt1, *])
    have k1_7 := keep1 hb (b := w.heap.size + 1 + 1 + 1) (o := 1) (v := .int .i64 d2) (by simp (maxDischargeDepth := 12) [go_sem, le1, lt1, *])
    have HB1 := hide hb
    clear hb
    have lak1_0 := cell_lt k1_0
    have lbk1_0 := Nat.le_of_lt lak1_0
    have lck1_0 := lt1 (k := 1) lak1_0
    have ldk1_0 := lt1 (k := 1) lck1_0
    have lek1_0 := lt1 (k := 1) ldk1_0
    have lnk1_0 := Nat.ne_of_lt lak1_0
    have lmk1_0 := (Nat.ne_of_lt lak1_0).symm
    have lak1_2 := cell_lt k1_2
    have lbk1_2 := Nat.le_of_lt lak1_2
    have lck1_2 := lt1 (k := 1) lak1_2
    have ldk1_2 := lt1 (k := 1) lck1_2
    have lek1_2 := lt1 (k := 1) ldk1_2
    have lnk1_2 := Nat.ne_of_lt lak1_2
    have lmk1_2 := (Nat.ne_of_lt lak1_2).symm
    have lak1_4 := cell_lt k1_4
    have lbk1_4 := Nat.le_of_lt lak1_4
    have lck1_4 := lt1 (k := 1) lak1_4
    have ldk1_4 := lt1 (k := 1) lck1_4
    have lek1_4 := lt1 (k := 1) ldk1_4
    have lnk1_4 := Nat.ne_of_lt lak1_4
    have lmk1_4 := (Nat.ne_of_lt lak1_4).symm
    have lak1_6 := cell_lt k1_6
    have lbk1_6 := Nat.le_of_lt lak1_6
    have lck1_6 := lt1 (k := 1) lak1_6
    have ldk1_6 := lt1 (k := 1) lck1_6
    have lek1_6 := lt1 (k := 1) ldk1_6
    have lnk1_6 := Nat.ne_of_lt lak1_6
    have lmk1_6 := (Nat.ne_of_lt lak1_6).symm
    go_wp2_with fail
    refine (unhide L2 _).mono ?_
    rintro e W2 ⟨rfl, hb⟩
    have k2_0 := keep1 hb (b := w.heap.size) (o := 0) (v := .int .i64 a1) (by simp (maxDischargeDepth := 12) [go_sem, le1, lt1, *])
    have k2_1 := keep1 hb (b := w.heap.size) (o := 1) (v := .int .i64 a2) (by simp (maxDischargeDepth := 12) [go_sem, le1, lt1, *])
    have k2_2 := keep1 hb (b := w.heap.size + 1) (o := 0) (v := .int .i64 b1) (by simp (maxDischargeDepth := 12) [go_sem, le1, lt1, *])
    have k2_3 := keep1 hb (b := w.heap.size + 1) (o := 1) (v := .int .i64 b2) (by simp (maxDischargeDepth := 12) [go_sem, le1, lt1, *])
    have k2_4 := keep1 hb (b := w.heap.size + 1 + 1) (o := 0) (v := .int .i64 c1) (by simp (maxDischargeDepth := 12) [go_sem, le1, lt1, *])
    have k2_5 := keep1 hb (b := w.heap.size + 1 + 1) (o := 1) (v := .int .i64 c2) (by simp (maxDischargeDepth := 12) [go_sem, le1, lt1, *])
    have k2_6 := keep1 hb (b := w.heap.size + 1 + 1 + 1) (o := 0) (v := .int .i64 d1) (by simp (maxDischargeDepth := 12) [go_sem, le1, lt1, *])
    have k2_7 := keep1 hb (b := w.heap.size + 1 + 1 + 1) (o := 1) (v := .int .i64 d2) (by simp (maxDischargeDepth := 12) [go_sem, le1, lt1, *])
    have HB2 := hide hb
    clear hb
    clear k1_0 k1_1 k1_2 k1_3 k1_4 k1_5 k1_6 k1_7 lak1_0 lbk1_0 lck1_0 ldk1_0 lek1_0 lak1_2 lbk1_2 lck1_2 ldk1_2 lek1_2 lak1_4 lbk1_4 lck1_4 ldk1_4 lek1_4 lak1_6 lbk1_6 lck1_6 ldk1_6 lek1_6
    have lak2_0 := cell_lt k2_0
    have lbk2_0 := Nat.le_of_lt lak2_0
    have lck2_0 := lt1 (k := 1) lak2_0
    have ldk2_0 := lt1 (k := 1) lck2_0
    have lek2_0 := lt1 (k := 1) ldk2_0
    have lnk2_0 := Nat.ne_of_lt lak2_0
    have lmk2_0 := (Nat.ne_of_lt lak2_0).symm
    have lak2_2 := cell_lt k2_2
    have lbk2_2 := Nat.le_of_lt lak2_2
    have lck2_2 := lt1 (k := 1) lak2_2
    have ldk2_2 := lt1 (k := 1) lck2_2
    have lek2_2 := lt1 (k := 1) ldk2_2
    have lnk2_2 := Nat.ne_of_lt lak2_2
    have lmk2_2 := (Nat.ne_of_lt lak2_2).symm
    have lak2_4 := cell_lt k2_4
    have lbk2_4 := Nat.le_of_lt lak2_4
    have lck2_4 := lt1 (k := 1) lak2_4
    have ldk2_4 := lt1 (k := 1) lck2_4
    have lek2_4 := lt1 (k := 1) ldk2_4
    have lnk2_4 := Nat.ne_of_lt lak2_4
    have lmk2_4 := (Nat.ne_of_lt lak2_4).symm
    have lak2_6 := cell_lt k2_6
    have lbk2_6 := Nat.le_of_lt lak2_6
    have lck2_6 := lt1 (k := 1) lak2_6
    have ldk2_6 := lt1 (k := 1) lck2_6
    have lek2_6 := lt1 (k := 1) ldk2_6
    have lnk2_6 := Nat.ne_of_lt lak2_6
    have lmk2_6 := (Nat.ne_of_lt lak2_6).symm
    go_wp2_with fail
    refine (unhide L3 _).mono ?_
    rintro e W3 ⟨rfl, hb⟩
    have k3_0 := keep1 hb (b := w.heap.size) (o := 0) (v := .int .i64 a1) (by simp (maxDischargeDepth := 12) [go_sem, le1, lt1, *])
    have k3_1 := keep1 hb (b := w.heap.size) (o := 1) (v := .int .i64 a2) (by simp (maxDischargeDepth := 12) [go_sem, le1, lt1, *])
    have k3_2 := keep1 hb (b := w.heap.size + 1) (o := 0) (v := .int .i64 b1) (by simp (maxDischargeDepth := 12) [go_sem, le1, lt1, *])
    have k3_3 := keep1 hb (b := w.heap.size + 1) (o := 1) (v := .int .i64 b2) (by simp (maxDischargeDepth := 12) [go_sem, le1, lt1, *])
    have k3_4 := keep1 hb (b := w.heap.size + 1 + 1) (o := 0) (v := .int .i64 c1) (by simp (maxDischargeDepth := 12) [go_sem, le1, lt1, *])
    have k3_5 := keep1 hb (b := w.heap.size + 1 + 1) (o := 1) (v := .int .i64 c2) (by simp (maxDischargeDepth := 12) [go_sem, le1, lt1, *])
    have k3_6 := keep1 hb (b := w.heap.size + 1 + 1 + 1) (o := 0) (v := .int .i64 d1) (by simp (maxDischargeDepth := 12) [go_sem, le1, lt1, *])
    have k3_7 := keep1 hb (b := w.heap.size + 1 + 1 + 1) (o := 1) (v := .int .i64 d2) (by simp (maxDischargeDepth := 12) [go_sem, le1, lt1, *])
    have k3_8 := keep1 hb (b := W2.heap.size) (o := 0) (v := .int .i64 a1) (by simp (maxDischargeDepth := 12) [go_sem, le1, lt1, *])
    have k3_9 := keep1 hb (b := W2.heap.size) (o := 1) (v := .int .i64 a2) (by simp (maxDischargeDepth := 12) [go_sem, le1, lt1, *])
    have z3 := fun o => keepz hb (b := W2.heap.size) (o := o) (by simp) (by simp (maxDischargeDepth := 12) [go_sem, le1, lt1, *])
    have HB3 := hide hb
    clear hb
    clear k2_0 k2_1 k2_2 k2_3 k2_4 k2_5 k2_6 k2_7 lak2_0 lbk2_0 lck2_0 ldk2_0 lek2_0 lak2_2 lbk2_2 lck2_2 ldk2_2 lek2_2 lak2_4 lbk2_4 lck2_4 ldk2_4 lek2_4 lak2_6 lbk2_6 lck2_6 ldk2_6 lek2_6
    have lak3_0 := cell_lt k3_0
    have lbk3_0 := Nat.le_of_lt lak3_0
    have lck3_0 := lt1 (k := 1) lak3_0
    have ldk3_0 := lt1 (k := 1) lck3_0
    have lek3_0 := lt1 (k := 1) ldk3_0
    have lnk3_0 := Nat.ne_of_lt lak3_0
    have lmk3_0 := (Nat.ne_of_lt lak3_0).symm
    have lak3_2 := cell_lt k3_2
    have lbk3_2 := Nat.le_of_lt lak3_2
    have lck3_2 := lt1 (k := 1) lak3_2
    have ldk3_2 := lt1 (k := 1) lck3_2
    have lek3_2 := lt1 (k := 1) ldk3_2
    have lnk3_2 := Nat.ne_of_lt lak3_2
    have lmk3_2 := (Nat.ne_of_lt lak3_2).symm
    have lak3_4 := cell_lt k3_4
    have lbk3_4 := Nat.le_of_lt lak3_4
    have lck3_4 := lt1 (k := 1) lak3_4
    have ldk3_4 := lt1 (k := 1) lck3_4
    have lek3_4 := lt1 (k := 1) ldk3_4
    have lnk3_4 := Nat.ne_of_lt lak3_4
    have lmk3_4 := (Nat.ne_of_lt lak3_4).symm
    have lak3_6 := cell_lt k3_6
    have lbk3_6 := Nat.le_of_lt lak3_6
    have lck3_6 := lt1 (k := 1) lak3_6
    have ldk3_6 := lt1 (k := 1) lck3_6
    have lek3_6 := lt1 (k := 1) ldk3_6
    have lnk3_6 := Nat.ne_of_lt lak3_6
    have lmk3_6 := (Nat.ne_of_lt lak3_6).symm
    have lak3_8 := cell_lt k3_8
    have lbk3_8 := Nat.le_of_lt lak3_8
    have lck3_8 := lt1 (k := 1) lak3_8
    have ldk3_8 := lt1 (k := 1) lck3_8
    have lek3_8 := lt1 (k := 1) ldk3_8
    have lnk3_8 := Nat.ne_of_lt lak3_8
    have lmk3_8 := (Nat.ne_of_lt lak3_8).symm
    go_wp2_with fail
    refine (unhide L4 _).mono ?_
    rintro e W4 ⟨rfl, hb⟩
    have k4_0 := keep1 hb (b := w.heap.size) (o := 0) (v := .int .i64 a1) (by simp (maxDischargeDepth := 12) [go_sem, le1, lt1, *])
    have k4_1 := keep1 hb (b := w.heap.size) (o := 1) (v := .int .i64 a2) (by simp (maxDischargeDepth := 12) [go_sem, le1, lt1, *])
    have k4_2 := keep1 hb (b := w.heap.size + 1) (o := 0) (v := .int .i64 b1) (by simp (maxDischargeDepth := 12) [go_sem, le1, lt1, *])
    have k4_3 := keep1 hb (b := w.heap.size + 1) (o := 1) (v := .int .i64 b2) (by simp (maxDischargeDepth := 12) [go_sem, le1, lt1, *])
    have k4_4 := keep1 hb (b := w.heap.size + 1 + 1) (o := 0) (v := .int .i64 c1) (by simp (maxDischargeDepth := 12) [go_sem, le1, lt1, *])
    have k4_5 := keep1 hb (b := w.heap.size + 1 + 1) (o := 1) (v := .int .i64 c2) (by simp (maxDischargeDepth := 12) [go_sem, le1, lt1, *])
    have k4_6 := keep1 hb (b := w.heap.size + 1 + 1 + 1) (o := 0) (v := .int .i64 d1) (by simp (maxDischargeDepth := 12) [go_sem, le1, lt1, *])
    have k4_7 := keep1 hb (b := w.heap.size + 1 + 1 + 1) (o := 1) (v := .int .i64 d2) (by simp (maxDischargeDepth := 12) [go_sem, le1, lt1, *])
    have k4_8 := keep1 hb (b := W2.heap.size) (o := 0) (v := .int .i64 c1) (by simp (maxDischargeDepth := 12) [go_sem, le1, lt1, *])
    have k4_9 := keep1 hb (b := W2.heap.size) (o := 1) (v := .int .i64 c2) (by simp (maxDischargeDepth := 12) [go_sem, le1, lt1, *])
    have k4_10 := keep1 hb (b := W3.heap.size) (o := 0) (v := .int .i64 b1) (by simp (maxDischargeDepth := 12) [go_sem, le1, lt1, *])
    have k4_11 := keep1 hb (b := W3.heap.size) (o := 1) (v := .int .i64 b2) (by simp (maxDischargeDepth := 12) [go_sem, le1, lt1, *])
    have z4 := fun o => keepz hb (b := W3.heap.size) (o := o) (by simp) (by simp (maxDischargeDepth := 12) [go_sem, le1, lt1, *])
    have HB4 := hide hb
    clear hb
    clear k3_0 k3_1 k3_2 k3_3 k3_4 k3_5 k3_6 k3_7 k3_8 k3_9 lak3_0 lbk3_0 lck3_0 ldk3_0 lek3_0 lak3_2 lbk3_2 lck3_2 ldk3_2 lek3_2 lak3_4 lbk3_4 lck3_4 ldk3_4 lek3_4 lak3_6 lbk3_6 lck3_6 ldk3_6 lek3_6 lak3_8 lbk3_8 lck3_8 ldk3_8 lek3_8
    have lak4_0 := cell_lt k4_0
    have lbk4_0 := Nat.le_of_lt lak4_0
    have lck4_0 := lt1 (k := 1) lak4_0
    have ldk4_0 := lt1 (k := 1) lck4_0
    have lek4_0 := lt1 (k := 1) ldk4_0
    have lnk4_0 := Nat.ne_of_lt lak4_0
    have lmk4_0 := (Nat.ne_of_lt lak4_0).symm
    have lak4_2 := cell_lt k4_2
    have lbk4_2 := Nat.le_of_lt lak4_2
    have lck4_2 := lt1 (k := 1) lak4_2
    have ldk4_2 := lt1 (k := 1) lck4_2
    have lek4_2 := lt1 (k := 1) ldk4_2
    have lnk4_2 := Nat.ne_of_lt lak4_2
    have lmk4_2 := (Nat.ne_of_lt lak4_2).symm
    have lak4_4 := cell_lt k4_4
    have lbk4_4 := Nat.le_of_lt lak4_4
    have lck4_4 := lt1 (k := 1) lak4_4
    have ldk4_4 := lt1 (k := 1) lck4_4
    have lek4_4 := lt1 (k := 1) ldk4_4
    have lnk4_4 := Nat.ne_of_lt lak4_4
    have lmk4_4 := (Nat.ne_of_lt lak4_4).symm
    have lak4_6 := cell_lt k4_6
    have lbk4_6 := Nat.le_of_lt lak4_6
    have lck4_6 := lt1 (k := 1) lak4_6
    have ldk4_6 := lt1 (k := 1) lck4_6
    have lek4_6 := lt1 (k := 1) ldk4_6
    have lnk4_6 := Nat.ne_of_lt lak4_6
    have lmk4_6 := (Nat.ne_of_lt lak4_6).symm
    have lak4_8 := cell_lt k4_8
    have lbk4_8 := Nat.le_of_lt lak4_8
    have lck4_8 := lt1 (k := 1) lak4_8
    have ldk4_8 := lt1 (k := 1) lck4_8
    have lek4_8 := lt1 (k := 1) ldk4_8
    have lnk4_8 := Nat.ne_of_lt lak4_8
    have lmk4_8 := (Nat.ne_of_lt lak4_8).symm
    have lak4_10 := cell_lt k4_10
    have lbk4_10 := Nat.le_of_lt lak4_10
    have lck4_10 := lt1 (k := 1) lak4_10
    have ldk4_10 := lt1 (k := 1) lck4_10
    have lek4_10 := lt1 (k := 1) ldk4_10
    have lnk4_10 := Nat.ne_of_lt lak4_10
    have lmk4_10 := (Nat.ne_of_lt lak4_10).symm
    have E4 : Hid (Below w.heap.size w W4) := by
      refine hide (bc ?_ (unhide HB4))
      refine ba ?_ _
      refine Below.setCell (Below.setCell ?_ (le_bel (bc (ba (ba (ba (ba (Below.refl w.heap.size w) _) _) _) _) (unhide HB1)) (unhide HB2)) _) (le_bel (bc (ba (ba (ba (ba (Below.refl w.heap.size w) _) _) _) _) (unhide HB1)) (unhide HB2)) _
      refine bc ?_ (unhide HB3)
      refine ba ?_ _
      refine bc ?_ (unhide HB2)
      refine bc ?_ (unhide HB1)
      exact ba (ba (ba (ba (Below.refl _ _) _) _) _) _
    have le4 : w.heap.size ≤ W3.heap.size := by
      have := (unhide HB1).size
      have := (unhide HB2).size
      have := (unhide HB3).size
      simp at *
      omega
    clear HB1 HB2 HB3 HB4 z3
    go_wp2_with fail
    refine (unhide L5 _).mono ?_
    rintro e W5 ⟨rfl, hb⟩
    have HB5 := hide hb
    clear hb
    clear k4_0 k4_1 k4_2 k4_3 k4_4 k4_5 k4_6 k4_7 k4_8 k4_9 k4_10 k4_11 lak4_0 lbk4_0 lck4_0 ldk4_0 lek4_0 lak4_2 lbk4_2 lck4_2 ldk4_2 lek4_2 lak4_4 lbk4_4 lck4_4 ldk4_4 lek4_4 lak4_6 lbk4_6 lck4_6 ldk4_6 lek4_6 lak4_8 lbk4_8 lck4_8 ldk4_8 lek4_8 lak4_10 lbk4_10 lck4_10 ldk4_10 lek4_10
    have E6 := hide (bc (unhide E4) (unhide HB5))
    clear E4 HB5
    go_wp2_with fail
    go_ret
    exact ⟨⟨_, rfl, (unhide E6).size, blk_new _ _⟩, ba (unhide E6) _⟩

set_option maxRecDepth 100000 in
set_option maxHeartbeats 2000000 in
theorem alongM_gt_cd (a1 a2 b1 b2 c1 c2 d1 d2 : Int) (w : World)
    (L1 : Hid (∀ W, Calls Try.prog 91 #[.agg #[.int .i64 b1, .int .i64 b2], .agg #[.int .i64 a1, .int .i64 a2]] W fun e w' => e = .returned (.bool false) ∧ Below W.heap.size W w'))
    (L2 : Hid (∀ W, Calls Try.prog 91 #[.agg #[.int .i64 d1, .int .i64 d2], .agg #[.int .i64 c1, .int .i64 c2]] W fun e w' => e = .returned (.bool false) ∧ Below W.heap.size W w'))
    (L3 : Hid (∀ W, Calls Try.prog 91 #[.agg #[.int .i64 a1, .int .i64 a2], .agg #[.int .i64 c1, .int .i64 c2]] W fun e w' => e = .returned (.bool true) ∧ Below W.heap.size W w'))
    (L4 : Hid (∀ W, Calls Try.prog 91 #[.agg #[.int .i64 d1, .int .i64 d2], .agg #[.int .i64 b1, .int .i64 b2]] W fun e w' => e = .returned (.bool true) ∧ Below W.heap.size W w'))
    (qq : (c1 == d1) = false ∨ (c1 == d1) = true ∧ (c2 == d2) = false)
    (L5 : Hid (∀ W, Calls Try.prog 91 #[.agg #[.int .i64 c1, .int .i64 c2], .agg #[.int .i64 d1, .int .i64 d2]] W fun e w' => e = .returned (.bool false) ∧ Below W.heap.size W w')) :
    Calls Try.prog 77 #[.agg #[.int .i64 a1, .int .i64 a2], .agg #[.int .i64 b1, .int .i64 b2], .agg #[.int .i64 c1, .int .i64 c2], .agg #[.int .i64 d1, .int .i64 d2]] w fun e w' => (∃ k, e = .returned (.slice (some ⟨k, 0, none⟩) 0 0) ∧ w.heap.size ≤ k ∧ w'.heap[k]? = some (.cells #[] 93 (0, 0))) ∧ Below w.heap.size w w' := by
  rcases qq with q1 | ⟨q1, q2⟩
  all_goals
    go_enter Try.func77, Try.ntmps77
    go_wp2_with fail
    refine (unhide L1 _).mono ?_
    rintro e W1 ⟨rfl, hb⟩
    have k1_0 := keep1 hb (b := w.heap.size) (o := 0) (v := .int .i64 a1) (by simp (maxDischargeDepth := 12) [go_sem, le1, lt1, *])
    have k1_1 := keep1 hb (b := w.heap.size) (o := 1) (v := .int .i64 a2) (by simp (maxDischargeDepth := 12) [go_sem, le1, lt1, *])
    have k1_2 := keep1 hb (b := w.heap.size + 1) (o := 0) (v := .int .i64 b1) (by simp (maxDischargeDepth := 12) [go_sem, le1, lt1, *])
    have k1_3 := keep1 hb (b := w.heap.size + 1) (o := 1) (v := .int .i64 b2) (by simp (maxDischargeDepth := 12) [go_sem, le1, lt1, *])
    have k1_4 := keep1 hb (b := w.heap.size + 1 + 1) (o := 0) (v := .int .i64 c1) (by simp (maxDischargeDepth := 12) [go_sem, le1, lt1, *])
    have k1_5 := keep1 hb (b := w.heap.size + 1 + 1) (o := 1) (v := .int .i64 c2) (by simp (maxDischargeDepth := 12) [go_sem, le1, lt1, *])
    have k1_6 := keep1 hb (b := w.heap.size + 1 + 1 + 1) (o := 0) (v := .int .i64 d1) (by simp (maxDischargeDepth := 12) [go_sem, le1, lt1, *])
    have k1_7 := keep1 hb (b := w.heap.size + 1 + 1 + 1) (o := 1) (v := .int .i64 d2) (by simp (maxDischargeDepth := 12) [go_sem, le1, lt1, *])
    have HB1 := hide hb
    clear hb
    have lak1_0 := cell_lt k1_0
    have lbk1_0 := Nat.le_of_lt lak1_0
    have lck1_0 := lt1 (k := 1) lak1_0
    have ldk1_0 := lt1 (k := 1) lck1_0
    have lek1_0 := lt1 (k := 1) ldk1_0
    have lnk1_0 := Nat.ne_of_lt lak1_0
    have lmk1_0 := (Nat.ne_of_lt lak1_0).symm
    have lak1_2 := cell_lt k1_2
    have lbk1_2 := Nat.le_of_lt lak1_2
    have lck1_2 := lt1 (k := 1) lak1_2
    have ldk1_2 := lt1 (k := 1) lck1_2
    have lek1_2 := lt1 (k := 1) ldk1_2
    have lnk1_2 := Nat.ne_of_lt lak1_2
    have lmk1_2 := (Nat.ne_of_lt lak1_2).symm
    have lak1_4 := cell_lt k1_4
    have lbk1_4 := Nat.le_of_lt lak1_4
    have lck1_4 := lt1 (k := 1) lak1_4
    have ldk1_4 := lt1 (k := 1) lck1_4
    have lek1_4 := lt1 (k := 1) ldk1_4
    have lnk1_4 := Nat.ne_of_lt lak1_4
    have lmk1_4 := (Nat.ne_of_lt lak1_4).symm
    have lak1_6 := cell_lt k1_6
    have lbk1_6 := Nat.le_of_lt lak1_6
    have lck1_6 := lt1 (k := 1) lak1_6
    have ldk1_6 := lt1 (k := 1) lck1_6
    have lek1_6 := lt1 (k := 1) ldk1_6
    have lnk1_6 := Nat.ne_of_lt lak1_6
    have lmk1_6 := (Nat.ne_of_lt lak1_6).symm
    go_wp2_with fail
    refine (unhide L2 _).mono ?_
    rintro e W2 ⟨rfl, hb⟩
    have k2_0 := keep1 hb (b := w.heap.size) (o := 0) (v := .int .i64 a1) (by simp (maxDischargeDepth := 12) [go_sem, le1, lt1, *])
    have k2_1 := keep1 hb (b := w.heap.size) (o := 1) (v := .int .i64 a2) (by simp (maxDischargeDepth := 12) [go_sem, le1, lt1, *])
    have k2_2 := keep1 hb (b := w.heap.size + 1) (o := 0) (v := .int .i64 b1) (by simp (maxDischargeDepth := 12) [go_sem, le1, lt1, *])
    have k2_3 := keep1 hb (b := w.heap.size + 1) (o := 1) (v := .int .i64 b2) (by simp (maxDischargeDepth := 12) [go_sem, le1, lt1, *])
    have k2_4 := keep1 hb (b := w.heap.size + 1 + 1) (o := 0) (v := .int .i64 c1) (by simp (maxDischargeDepth := 12) [go_sem, le1, lt1, *])
    have k2_5 := keep1 hb (b := w.heap.size + 1 + 1) (o := 1) (v := .int .i64 c2) (by simp (maxDischargeDepth := 12) [go_sem, le1, lt1, *])
    have k2_6 := keep1 hb (b := w.heap.size + 1 + 1 + 1) (o := 0) (v := .int .i64 d1) (by simp (maxDischargeDepth := 12) [go_sem, le1, lt1, *])
    have k2_7 := keep1 hb (b := w.heap.size + 1 + 1 + 1) (o := 1) (v := .int .i64 d2) (by simp (maxDischargeDepth := 12) [go_sem, le1, lt1, *])
    have HB2 := hide hb
    clear hb
    clear k1_0 k1_1 k1_2 k1_3 k1_4 k1_5 k1_6 k1_7 lak1_0 lbk1_0 lck1_0 ldk1_0 lek1_0 lak1_2 lbk1_2 lck1_2 ldk1_2 lek1_2 lak1_4 lbk1_4 lck1_4 ldk1_4 lek1_4 lak1_6 lbk1_6 lck1_6 ldk1_6 lek1_6
    have lak2_0 := cell_lt k2_0
    have lbk2_0 := Nat.le_of_lt lak2_0
    have lck2_0 := lt1 (k := 1) lak2_0
    have ldk2_0 := lt1 (k := 1) lck2_0
    have lek2_0 := lt1 (k := 1) ldk2_0
    have lnk2_0 := Nat.ne_of_lt lak2_0
    have lmk2_0 := (Nat.ne_of_lt lak2_0).symm
    have lak2_2 := cell_lt k2_2
    have lbk2_2 := Nat.le_of_lt lak2_2
    have lck2_2 := lt1 (k := 1) lak2_2
    have ldk2_2 := lt1 (k := 1) lck2_2
    have lek2_2 := lt1 (k := 1) ldk2_2
    have lnk2_2 := Nat.ne_of_lt lak2_2
    have lmk2_2 := (Nat.ne_of_lt lak2_2).symm
    have lak2_4 := cell_lt k2_4
    have lbk2_4 := Nat.le_of_lt lak2_4
    have lck2_4 := lt1 (k := 1) lak2_4
    have ldk2_4 := lt1 (k := 1) lck2_4
    have lek2_4 := lt1 (k := 1) ldk2_4
    have lnk2_4 := Nat.ne_of_lt lak2_4
    have lmk2_4 := (Nat.ne_of_lt lak2_4).symm
    have lak2_6 := cell_lt k2_6
    have lbk2_6 := Nat.le_of_lt lak2_6
    have lck2_6 := lt1 (k := 1) lak2_6
    have ldk2_6 := lt1 (k := 1) lck2_6
    have lek2_6 := lt1 (k := 1) ldk2_6
    have lnk2_6 := Nat.ne_of_lt lak2_6
    have lmk2_6 := (Nat.ne_of_lt lak2_6).symm
    go_wp2_with fail
    refine (unhide L3 _).mono ?_
    rintro e W3 ⟨rfl, hb⟩
    have k3_0 := keep1 hb (b := w.heap.size) (o := 0) (v := .int .i64 a1) (by simp (maxDischargeDepth := 12) [go_sem, le1, lt1, *])
    have k3_1 := keep1 hb (b := w.heap.size) (o := 1) (v := .int .i64 a2) (by simp (maxDischargeDepth := 12) [go_sem, le1, lt1, *])
    have k3_2 := keep1 hb (b := w.heap.size + 1) (o := 0) (v := .int .i64 b1) (by simp (maxDischargeDepth := 12) [go_sem, le1, lt1, *])
    have k3_3 := keep1 hb (b := w.heap.size + 1) (o := 1) (v := .int .i64 b2) (by simp (maxDischargeDepth := 12) [go_sem, le1, lt1, *])
    have k3_4 := keep1 hb (b := w.heap.size + 1 + 1) (o := 0) (v := .int .i64 c1) (by simp (maxDischargeDepth := 12) [go_sem, le1, lt1, *])
    have k3_5 := keep1 hb (b := w.heap.size + 1 + 1) (o := 1) (v := .int .i64 c2) (by simp (maxDischargeDepth := 12) [go_sem, le1, lt1, *])
    have k3_6 := keep1 hb (b := w.heap.size + 1 + 1 + 1) (o := 0) (v := .int .i64 d1) (by simp (maxDischargeDepth := 12) [go_sem, le1, lt1, *])
    have k3_7 := keep1 hb (b := w.heap.size + 1 + 1 + 1) (o := 1) (v := .int .i64 d2) (by simp (maxDischargeDepth := 12) [go_sem, le1, lt1, *])
    have k3_8 := keep1 hb (b := W2.heap.size) (o := 0) (v := .int .i64 a1) (by simp (maxDischargeDepth := 12) [go_sem, le1, lt1, *])
    have k3_9 := keep1 hb (b := W2.heap.size) (o := 1) (v := .int .i64 a2) (by simp (maxDischargeDepth := 12) [go_sem, le1, lt1, *])
    have z3 := fun o => keepz hb (b := W2.heap.size) (o := o) (by simp) (by simp (maxDischargeDepth := 12) [go_sem, le1, lt1, *])
    have HB3 := hide hb
    clear hb
    clear k2_0 k2_1 k2_2 k2_3 k2_4 k2_5 k2_6 k2_7 lak2_0 lbk2_0 lck2_0 ldk2_0 lek2_0 lak2_2 lbk2_2 lck2_2 ldk2_2 lek2_2 lak2_4 lbk2_4 lck2_4 ldk2_4 lek2_4 lak2_6 lbk2_6 lck2_6 ldk2_6 lek2_6
    have lak3_0 := cell_lt k3_0
    have lbk3_0 := Nat.le_of_lt lak3_0
    have lck3_0 := lt1 (k := 1) lak3_0
    have ldk3_0 := lt1 (k := 1) lck3_0
    have lek3_0 := lt1 (k := 1) ldk3_0
    have lnk3_0 := Nat.ne_of_lt lak3_0
    have lmk3_0 := (Nat.ne_of_lt lak3_0).symm
    have lak3_2 := cell_lt k3_2
    have lbk3_2 := Nat.le_of_lt lak3_2
    have lck3_2 := lt1 (k := 1) lak3_2
    have ldk3_2 := lt1 (k := 1) lck3_2
    have lek3_2 := lt1 (k := 1) ldk3_2
    have lnk3_2 := Nat.ne_of_lt lak3_2
    have lmk3_2 := (Nat.ne_of_lt lak3_2).symm
    have lak3_4 := cell_lt k3_4
    have lbk3_4 := Nat.le_of_lt lak3_4
    have lck3_4 := lt1 (k := 1) lak3_4
    have ldk3_4 := lt1 (k := 1) lck3_4
    have lek3_4 := lt1 (k := 1) ldk3_4
    have lnk3_4 := Nat.ne_of_lt lak3_4
    have lmk3_4 := (Nat.ne_of_lt lak3_4).symm
    have lak3_6 := cell_lt k3_6
    have lbk3_6 := Nat.le_of_lt lak3_6
    have lck3_6 := lt1 (k := 1) lak3_6
    have ldk3_6 := lt1 (k := 1) lck3_6
    have lek3_6 := lt1 (k := 1) ldk3_6
    have lnk3_6 := Nat.ne_of_lt lak3_6
    have lmk3_6 := (Nat.ne_of_lt lak3_6).symm
    have lak3_8 := cell_lt k3_8
    have lbk3_8 := Nat.le_of_lt lak3_8
    have lck3_8 := lt1 (k := 1) lak3_8
    have ldk3_8 := lt1 (k := 1) lck3_8
    have lek3_8 := lt1 (k := 1) ldk3_8
    have lnk3_8 := Nat.ne_of_lt lak3_8
    have lmk3_8 := (Nat.ne_of_lt lak3_8).symm
    go_wp2_with fail
    refine (unhide L4 _).mono ?_
    rintro e W4 ⟨rfl, hb⟩
    have k4_0 := keep1 hb (b := w.heap.size) (o := 0) (v := .int .i64 a1) (by simp (maxDischargeDepth := 12) [go_sem, le1, lt1, *])
    have k4_1 := keep1 hb (b := w.heap.size) (o := 1) (v := .int .i64 a2) (by simp (maxDischargeDepth := 12) [go_sem, le1, lt1, *])
    have k4_2 := keep1 hb (b := w.heap.size + 1) (o := 0) (v := .int .i64 b1) (by simp (maxDischargeDepth := 12) [go_sem, le1, lt1, *])
    have k4_3 := keep1 hb (b := w.heap.size + 1) (o := 1) (v := .int .i64 b2) (by simp (maxDischargeDepth := 12) [go_sem, le1, lt1, *])
    have k4_4 := keep1 hb (b := w.heap.size + 1 + 1) (o := 0) (v := .int .i64 c1) (by simp (maxDischargeDepth := 12) [go_sem, le1, lt1, *])
    have k4_5 := keep1 hb (b := w.heap.size + 1 + 1) (o := 1) (v := .int .i64 c2) (by simp (maxDischargeDepth := 12) [go_sem, le1, lt1, *])
    have k4_6 := keep1 hb (b := w.heap.size + 1 + 1 + 1) (o := 0) (v := .int .i64 d1) (by simp (maxDischargeDepth := 12) [go_sem, le1, lt1, *])
    have k4_7 := keep1 hb (b := w.heap.size + 1 + 1 + 1) (o := 1) (v := .int .i64 d2) (by simp (maxDischargeDepth := 12) [go_sem, le1, lt1, *])
    have k4_8 := keep1 hb (b := W2.heap.size) (o := 0) (v := .int .i64 c1) (by simp (maxDischargeDepth := 12) [go_sem, le1, lt1, *])
    have k4_9 := keep1 hb (b := W2.heap.size) (o := 1) (v := .int .i64 c2) (by simp (maxDischargeDepth := 12) [go_sem, le1, lt1, *])
    have k4_10 := keep1 hb (b := W3.heap.size) (o := 0) (v := .int .i64 b1) (by simp (maxDischargeDepth := 12) [go_sem, le1, lt1, *])
    have k4_11 := keep1 hb (b := W3.heap.size) (o := 1) (v := .int .i64 b2) (by simp (maxDischargeDepth := 12) [go_sem, le1, lt1, *])
    have z4 := fun o => keepz hb (b := W3.heap.size) (o := o) (by simp) (by simp (maxDischargeDepth := 12) [go_sem, le1, lt1, *])
    have HB4 := hide hb
    clear hb
    clear k3_0 k3_1 k3_2 k3_3 k3_4 k3_5 k3_6 k3_7 k3_8 k3_9 lak3_0 lbk3_0 lck3_0 ldk3_0 lek3_0 lak3_2 lbk3_2 lck3_2 ldk3_2 lek3_2 lak3_4 lbk3_4 lck3_4 ldk3_4 lek3_4 lak3_6 lbk3_6 lck3_6 ldk3_6 lek3_6 lak3_8 lbk3_8 lck3_8 ldk3_8 lek3_8
    have lak4_0 := cell_lt k4_0
    have lbk4_0 := Nat.le_of_lt lak4_0
    have lck4_0 := lt1 (k := 1) lak4_0
    have ldk4_0 := lt1 (k := 1) lck4_0
    have lek4_0 := lt1 (k := 1) ldk4_0
    have lnk4_0 := Nat.ne_of_lt lak4_0
    have lmk4_0 := (Nat.ne_of_lt lak4_0).symm
    have lak4_2 := cell_lt k4_2
    have lbk4_2 := Nat.le_of_lt lak4_2
    have lck4_2 := lt1 (k := 1) lak4_2
    have ldk4_2 := lt1 (k := 1) lck4_2
    have lek4_2 := lt1 (k := 1) ldk4_2
    have lnk4_2 := Nat.ne_of_lt lak4_2
    have lmk4_2 := (Nat.ne_of_lt lak4_2).symm
    have lak4_4 := cell_lt k4_4
    have lbk4_4 := Nat.le_of_lt lak4_4
    have lck4_4 := lt1 (k := 1) lak4_4
    have ldk4_4 := lt1 (k := 1) lck4_4
    have lek4_4 := lt1 (k := 1) ldk4_4
    have lnk4_4 := Nat.ne_of_lt lak4_4
    have lmk4_4 := (Nat.ne_of_lt lak4_4).symm
    have lak4_6 := cell_lt k4_6
    have lbk4_6 := Nat.le_of_lt lak4_6
    have lck4_6 := lt1 (k := 1) lak4_6
    have ldk4_6 := lt1 (k := 1) lck4_6
    have lek4_6 := lt1 (k := 1) ldk4_6
    have lnk4_6 := Nat.ne_of_lt lak4_6
    have lmk4_6 := (Nat.ne_of_lt lak4_6).symm
    have lak4_8 := cell_lt k4_8
    have lbk4_8 := Nat.le_of_lt lak4_8
    have lck4_8 := lt1 (k := 1) lak4_8
    have ldk4_8 := lt1 (k := 1) lck4_8
    have lek4_8 := lt1 (k := 1) ldk4_8
    have lnk4_8 := Nat.ne_of_lt lak4_8
    have lmk4_8 := (Nat.ne_of_lt lak4_8).symm
    have lak4_10 := cell_lt k4_10
    have lbk4_10 := Nat.le_of_lt lak4_10
    have lck4_10 := lt1 (k := 1) lak4_10
    have ldk4_10 := lt1 (k := 1) lck4_10
    have lek4_10 := lt1 (k := 1) ldk4_10
    have lnk4_10 := Nat.ne_of_lt lak4_10
    have lmk4_10 := (Nat.ne_of_lt lak4_10).symm
    have E4 : Hid (Below w.heap.size w W4) := by
      refine hide (bc ?_ (unhide HB4))
      refine ba ?_ _
      refine Below.setCell (Below.setCell ?_ (le_bel (bc (ba (ba (ba (ba (Below.refl w.heap.size w) _) _) _) _) (unhide HB1)) (unhide HB2)) _) (le_bel (bc (ba (ba (ba (ba (Below.refl w.heap.size w) _) _) _) _) (unhide HB1)) (unhide HB2)) _
      refine bc ?_ (unhide HB3)
      refine ba ?_ _
      refine bc ?_ (unhide HB2)
      refine bc ?_ (unhide HB1)
      exact ba (ba (ba (ba (Below.refl _ _) _) _) _) _
    have le4 : w.heap.size ≤ W3.heap.size := by
      have := (unhide HB1).size
      have := (unhide HB2).size
      have := (unhide HB3).size
      simp at *
      omega
    clear HB1 HB2 HB3 HB4 z3
    go_wp2_with fail
    refine (unhide L5 _).mono ?_
    rintro e W5 ⟨rfl, hb⟩
    have HB5 := hide hb
    clear hb
    clear k4_0 k4_1 k4_2 k4_3 k4_4 k4_5 k4_6 k4_7 k4_8 k4_9 k4_10 k4_11 lak4_0 lbk4_0 lck4_0 ldk4_0 lek4_0 lak4_2 lbk4_2 lck4_2 ldk4_2 lek4_2 lak4_4 lbk4_4 lck4_4 ldk4_4 lek4_4 lak4_6 lbk4_6 lck4_6 ldk4_6 lek4_6 lak4_8 lbk4_8 lck4_8 ldk4_8 lek4_8 lak4_10 lbk4_10 lck4_10 ldk4_10 lek4_10
    have E6 := hide (bc (Below.setCell (Below.setCell (unhide E4) le4 _) le4 _) (unhide HB5))
    clear E4 HB5
    go_wp2_with fail
    go_ret
    exact ⟨⟨_, rfl, (unhide E6).size, blk_new _ _⟩, ba (unhide E6) _⟩
end Go.Proofs.Ytimkinpbimangaa
