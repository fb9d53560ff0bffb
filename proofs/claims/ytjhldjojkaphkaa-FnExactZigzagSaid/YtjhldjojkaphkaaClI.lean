/-
  slices.Collect over an iterator of numbers: a row of its own that has just what comes.
-/
import Derived.Test.YtjhldjojkaphkaaItx
import Derived.Test.YtjhldjojkaphkaaCol2
import Derived.Test.YtjhldjojkaphkaaFdRows
import Derived.Test.YtjhldjojkaphkaaStd
namespace Go.Proofs.Ytjhldjojkaphkaa
open Go.ChangeShapes Go.WideShapes Go.ChangeAt Go.RowKit Go.Shelf
attribute [local go_sem] Oper.semAt_some
set_option linter.unusedVariables false
set_option linter.unusedSimpArgs false

/-- what holds between two rounds: the box has a row of its own with what has come -/
structure Api (w : World) (cs : List Int) (O : Nat → Prop) (k : Nat) (W : World) : Prop where
  far : ∀ b, O b → w.heap.size + 1 ≤ b
  row : ∃ v, vb W w.heap.size 23 [v] ∧ Row W (w.heap.size + 1) 3 1 v k (cs.take k) ∧ ∀ g, v.ownBlock = some g → ¬ O g
  bel : Below w.heap.size w W
theorem Api.on {w : World} {cs : List Int} {O O' : Nat → Prop} {k : Nat} {A B : World} (h : Api w cs O k A) (hg : Grw O A B) (hO : ∀ b, O' b → O b ∨ A.heap.size ≤ b) : Api w cs O' k B := by
  obtain ⟨v, hv, hr, hn⟩ := h.row
  have hl := hv.lt
  refine ⟨fun b hb => (hO b hb).elim (h.far b) (fun h => by omega), ⟨v, ?_, hr.kept' (fun g hg' => hg.block g (hr.lt g hg').2 (hn g hg')), fun g hg' ho => (hO g ho).elim (hn g hg') (fun h => by have := (hr.lt g hg').2; omega)⟩, h.bel.trans (hg.bel h.bel.size (fun b hb => by have := h.far b hb; omega))⟩
  exact (hg.block _ hl (fun ho => by have := h.far _ ho; omega)).trans hv
theorem take_one {cs : List Int} {k : Nat} (h : k < cs.length) : cs.take (k + 1) = cs.take k ++ [gt cs k] := by
  rw [List.take_add_one, gtk_some h]
  rfl
def ite (cs : List Int) (k : Nat) : Array Value := #[.int .i64 (gt cs k)]
set_option maxRecDepth 100000 in
set_option maxHeartbeats 4000000 in
theorem apI (gf : Nat) (lb : Array Value) (cs : List Int) (N : Nat) (R : Nat → Prop) (w : World) (hN : N ≤ 2500) (hcs : cs.length = N) (hR : ∀ b, R b → b < w.heap.size) (eg : ∀ args w, (callFunc gf args).run Try.prog w = .ok (.enter gf args) w) (hseq : SeqX Try.prog gf lb (ite cs) N R w) :
    Calls Try.prog 95 #[.slice none 0 0, .func (.func gf) #[] lb] w fun e w' => ∃ v, e = .returned v ∧ Row w' w.heap.size 3 1 v N cs ∧ Below w.heap.size w w' := by
  refine (callsIn_wide (n := 0)).1 ?_
  obtain ⟨iP, hi1, hp0, hp1, hp2⟩ := info_parts int_info3
  have HBx := hide (vb_new w 23 [.slice none 0 0] w.heap.size rfl)
  have hbl : Below w.heap.size w (w.alloc (.cells #[.slice none 0 0] 23)) := ba (Below.refl _ _) _
  have HBL := hide hbl
  have HSQ := hide (hseq.later hbl)
  clear hseq hbl
  refine callsIn_of_wp_marks Try.func95 rfl trivial ?_ rfl
  simp only [Try.ntmps95, List.size_toArray, List.length_cons, List.length_nil, Nat.reduceAdd, Nat.reduceSub, Array.replicate_succ, Array.replicate_zero, List.push_toArray, List.append_toArray, List.nil_append, List.cons_append]
  gi_wp2
  refine range_x (R := R) (N := N) (gf := gf) (lb := lb) rfl eg (fun b hb => by have := hR b hb; simp; omega) (unhide HSQ) (Below.refl _ _) (fun _ => rfl) (Api w cs) (fun _ _ _ => False) (fun O O' k A B h hg hO => h.on hg hO) (fun _ _ _ _ _ h _ _ => h)
    ⟨fun _ h => h.elim, ⟨_, unhide HBx, World.ownsRow_nil _ _ _ _, fun _ _ h => h⟩, unhide HBL⟩
    (fun O k a' W => a' = ({ tmps := #[.slice none 0 0, .func (.func gf) #[] lb, .pointer (some ⟨w.heap.size, 0, none⟩), undef, .slice none 0 0, .int .i64 (gt cs k), .func (.func gf) #[] lb, .int .i64 (gt cs k), undef, undef, undef, undef, undef], defers := [] } : Act))
    (fun O k a' A B h hg => h) ?assign ?body ?done ?stop
  case assign =>
    intro l O k W K hk hO hi hK
    have HK := hide hK
    have HI := hide hi
    clear hK hi
    unfold ite
    gi_wp2
    exact unhide HK _ _ (Kpx.refl _ _ _) (unhide HI) rfl
  case body =>
    rintro l O k a' W _ _ hk hO hi rfl
    obtain ⟨v, hv, hr, hnO⟩ := hi.row
    have hb := hi.bel
    have hfar := hi.far
    have HBX := hide hv
    have HR := hide hr
    have HNO := hide hnO
    have HB := hide hb
    have HFAR := hide hfar
    have c0 := hv.cell (m := 0) rfl
    have cf := hv.frozen
    have hsz := hv.lt
    obtain ⟨x, hx⟩ : ∃ x, gt cs k = x := ⟨_, rfl⟩
    have HTK := hide (take_one (cs := cs) (k := k) (by omega))
    rw [hx] at HTK ⊢
    clear hv hr hnO hb hfar hi hx
    have hA : Below W.heap.size W (W.alloc (.cells #[.int .i64 x] 3)) := ba (Below.refl _ _) _
    have HBW : Hid (∀ wz, (W.alloc (.cells #[.int .i64 x] 3)).grownBy wz v.ownBlock → vb wz w.heap.size 23 [v]) := hide (fun wz hg => (hg.block _ ((unhide HBX).bel hA).lt (fun e => by have := ((unhide HR).lt _ e.symm).1; omega)).trans ((unhide HBX).bel hA))
    gi_wp2_with (gi_at_builtin; refine listIn_append_new _ rfl _ _ 23 rfl (w.heap.size + 1) 3 iP _ 1 8 Try.underlying23 hi1 hp0 hp1 hp2 rfl (by decide) _ _ _ rfl ((unhide HR).alloc _) _ 1 1 ([x].map (Value.int .i64)) rfl rfl (by first | exact news_cells _ _ rfl | exact news_cells _ _ (by simp) | exact news_drew _ _ (by simp)) ints_one (by unfold maxLen; omega) (by omega) (by simp; omega) ?_; intro v' wz hown' hgrow hnew; obtain ⟨g', cap', rfl⟩ := ownsRow_succ hown'; have HGR := hide hgrow; have HOW := hide hown'; have HNW := hide hnew; have bz := (unhide HBW) _ hgrow; have cz := bz.cell (m := 0) rfl; have fz := bz.frozen; clear hown' hgrow hnew bz)
    have hgr := unhide HGR
    have how := unhide HOW
    have hbz := unhide HBW _ hgr
    have hnn : ∀ b, O b → b ≠ w.heap.size := fun b hb e => by have := unhide HFAR b hb; omega
    have hkp : Below w.heap.size W wz := ((ba (Below.refl _ _) _ : Below W.heap.size W _).mono (by omega)).grown hgr (by simp; omega) (fun j hj => by have := ((unhide HR).lt j hj).1; omega)
    have hrow : Row wz (w.heap.size + 1) 3 1 (.slice (some ⟨g', 0, none⟩) (k + 1) cap') (k + 1) (cs.take (k + 1)) := by rw [unhide HTK]; unfold Row; rw [List.map_append]; exact how
    have hg1 := hrow.lt g' rfl
    have hset : ∀ (b : Nat), b ≠ w.heap.size → (wz.setCell ⟨w.heap.size, 0, none⟩ (.slice (some ⟨g', 0, none⟩) (k + 1) cap')).heap[b]? = wz.heap[b]? := fun b hb => Below.heap_setCell _ _ _ _ hb
    have hng : ∀ b, O b → b ≠ g' := by
      rintro b hb rfl
      rcases unhide HNW b rfl with h | h
      · exact unhide HNO b h hb
      · have := (hO b hb).2
        simp at h
        omega
    refine ⟨⟨hkp.os, hkp.tape, hkp.output, by simp; exact hkp.size, fun b hb hbl => ?_⟩, unhide HFAR, ⟨_, hbz.set 0 _, hrow.kept' (fun gg hgg => by cases hgg; exact hset g' (by omega)), fun gg hgg ho => by cases hgg; exact hng g' ho rfl⟩, ((unhide HB).trans hkp).setCell (p := ⟨w.heap.size, 0, none⟩) (Nat.le_refl _) _⟩
    rcases hb with hb | hb
    · have := hR b hb
      exact (hset b (by omega)).trans (hkp.block b this)
    · exact (hset b (hnn b hb)).trans ((hgr.block b (by simp; omega) (fun e => unhide HNO b e.symm hb)).trans (Below.heap_alloc _ _ _ hbl))
  case done =>
    intro O D W hD hi hK hOD
    obtain ⟨v, hv, hr, hnO⟩ := hi.row
    have HI := hide hi
    have HR := hide hr
    have HK := hide hK
    have HNO := hide hnO
    have c0 := hv.cell (m := 0) rfl
    clear hi hr hv hnO
    gi_wp2
    refine ⟨by simp, .inl ⟨_, _, rfl, run_takeDeferred (unhide HK), ?_⟩⟩
    refine ⟨_, results_tmp rfl _ _ _, v, rfl, ?_, ?_⟩
    · have h1 : Row (W.putObj D (.deferred none)) (w.heap.size + 1) 3 1 v N (cs.take N) := (unhide HR).kept' (fun g hg => World.putObj_heap_other (fun e => unhide HNO g hg (by rw [e]; exact hOD)))
      rw [← hcs, List.take_length] at h1
      rw [← hcs]
      exact h1.mono (by omega)
    · exact (unhide HI).bel.trans ⟨rfl, rfl, rfl, by simp, fun b hb => World.putObj_heap_other (by have := hD; simp at this; omega)⟩
  case stop =>
    intro O D k W _ _ h
    exact h.elim
theorem clI (gf : Nat) (lb : Array Value) (cs : List Int) (N : Nat) (R : Nat → Prop) (w : World) (hN : N ≤ 2500) (hcs : cs.length = N) (hR : ∀ b, R b → b < w.heap.size) (eg : ∀ args w, (callFunc gf args).run Try.prog w = .ok (.enter gf args) w) (hseq : SeqX Try.prog gf lb (ite cs) N R w) :
    Calls Try.prog 77 #[.func (.func gf) #[] lb] w fun e w' => ∃ v, e = .returned v ∧ Row w' w.heap.size 3 1 v N cs ∧ Below w.heap.size w w' := by
  have HA := hide (apI gf lb cs N R w hN hcs hR eg hseq)
  clear hseq eg hR
  go_enter Try.func77, Try.ntmps77
  go_wp2_with fail
  refine (unhide HA).mono ?_
  rintro e w' ⟨v, rfl, hr, hb⟩
  have HR := hide hr
  have HB := hide hb
  clear hr hb
  go_wp2_with fail
  go_ret
  exact ⟨v, rfl, unhide HR, unhide HB⟩
end Go.Proofs.Ytjhldjojkaphkaa
