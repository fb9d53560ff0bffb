/-
  slices.Collect over an iterator of numbers: a row of its own that has just what comes. slices.Contains over a row of numbers. The places where a tool may stand: the levels as a row, and the points that lie on none. The places where a tool may stand, as an iterator. The places of Zigzag, as an iterator. A statement of Zigzag, walked alone: the iterator over its places is made. The moves of Zigzag, as they lie in memory. The model's Zigzag as a run over candidates: its places are those of the program. Rows of moves, and what the law asks of them: that two are the same, that one is written over, that it is held. The source of choices: what a byte, a choice, a chance and an odd number are, whatever the code. Rows of one's own while a source of choices moves on. Rows of moves, as they lie in memory. Milling by moves, in lists: what is left behind the first moves, and which move is the first that can not be. Floors and millings in lists: a floor is no lower than the part, and its own floor; no milling leaves less than the floor. The model's candidates, one behind the other. Zigzag's moves, milled, in lists: each can be; they leave just the floor, or the stock where it is lower. What Zigzag's moves leave: just the floor, or the stock where it is lower. One statement of the program's milling along a way, walked alone: nothing stands above the tool. The program's code of a way. The program's milling along a way. The program's places of a way. By how much one field is above another: both sides. The model's floor. Whether a stock and a part go together: both sides.
-/
import Derived.Test.YtjhldjojkaphkaaItx
import Derived.Test.YtjhldjojkaphkaaCol2
import Derived.Test.YtjhldjojkaphkaaFdRows
import Derived.Test.YtjhldjojkaphkaaStd
import Derived.Test.YtjhldjojkaphkaaByt
import Derived.Test.YtjhldjojkaphkaaTkX
import Derived.Test.YtjhldjojkaphkaaMkRows
import Derived.Test.YtjhldjojkaphkaaIRows
import Derived.Test.YtjhldjojkaphkaaRowX
import Derived.Test.YtjhldjojkaphkaaVb
import Derived.Test.YtjhldjojkaphkaaMakes
import Derived.Test.YtjhldjojkaphkaaMov
import Derived.Test.YtjhldjojkaphkaaTak
import Derived.Test.YtjhldjojkaphkaaInv
import Derived.Test.YtjhldjojkaphkaaSml
import Derived.Test.YtjhldjojkaphkaaFdOk
import Derived.Test.YtjhldjojkaphkaaLow
namespace Go.Proofs.Ytjhldjojkaphkaa
open Go.ChangeShapes Go.WideShapes Go.ChangeAt Go.RowKit Go.Shelf
attribute [local go_sem] Oper.semAt_some
set_option linter.unusedVariables false
set_option linter.unusedSimpArgs false

/-- what holds between two rounds: the box has a row of its own with what has come -/
structure Api (w : World) (cs : List Int) (O : Nat → Prop) (k : Nat) (W : World) : Prop where
  far : ∀ b, O b → w.heap.size + 1 ≤ b
  row : ∃ v, vb W w.heap.size 23 [v] ∧ Row W (w.heap.size + 1) 3 1 v k (cs.take k) ∧ ∀ g, v.ownBlock = some g → ¬ O g
  bel : Below w.heap.size w W
theorem Api.on {w : World} {cs : List Int} {O O' : Nat → Prop} {k : Nat} {A B : World} (h : Api w cs O k A) (hg : Grw O A B) (hO : ∀ b, O' b → O b ∨ A.heap.size ≤ b) : Api w cs O' k B := by
  obtain ⟨v, hv, hr, hn⟩ := h.row
  have hl := hv.lt
  refine ⟨fun b hb => (hO b hb).elim (h.far b) (fun h => by omega), ⟨v, ?_, hr.kept' (fun g hg' => hg.block g (hr.lt g hg').2 (hn g hg')), fun g hg' ho => (hO g ho).elim (hn g hg') (fun h => by have := (hr.lt g hg').2; omega)⟩, h.bel.trans (hg.bel h.bel.size (fun b hb => by have := h.far b hb; omega))⟩
  exact (hg.block _ hl (fun ho => by have := h.far _ ho; omega)).trans hv
theorem take_one {cs : List Int} {k : Nat} (h : k < cs.length) : cs.take (k + 1) = cs.take k ++ [gt cs k] := by
  rw [List.take_add_one, gtk_some h]
  rfl
def ite (cs : List Int) (k : Nat) : Array Value := #[.int .i64 (gt cs k)]
set_option maxRecDepth 100000 in
set_option maxHeartbeats 4000000 in
theorem apI (gf : Nat) (lb : Array Value) (cs : List Int) (N : Nat) (R : Nat → Prop) (w : World) (hN : N ≤ 2500) (hcs : cs.length = N) (hR : ∀ b, R b → b < w.heap.size) (eg : ∀ args w, (callFunc gf args).run Try.prog w = .ok (.enter gf args) w) (hseq : SeqX Try.prog gf lb (ite cs) N R w) :
    Calls Try.prog 95 #[.slice none 0 0, .func (.func gf) #[] lb] w fun e w' => ∃ v, e = .returned v ∧ Row w' w.heap.size 3 1 v N cs ∧ Below w.heap.size w w' := by
  refine (callsIn_wide (n := 0)).1 ?_
  obtain ⟨iP, hi1, hp0, hp1, hp2⟩ := info_parts int_info3
  have HBx := hide (vb_new w 23 [.slice none 0 0] w.heap.size rfl)
  have hbl : Below w.heap.size w (w.alloc (.cells #[.slice none 0 0] 23)) := ba (Below.refl _ _) _
  have HBL := hide hbl
  have HSQ := hide (hseq.later hbl)
  clear hseq hbl
  refine callsIn_of_wp_marks Try.func95 rfl trivial ?_ rfl
  simp only [Try.ntmps95, List.size_toArray, List.length_cons, List.length_nil, Nat.reduceAdd, Nat.reduceSub, Array.replicate_succ, Array.replicate_zero, List.push_toArray, List.append_toArray, List.nil_append, List.cons_append]
  gi_wp2
  refine range_x (R := R) (N := N) (gf := gf) (lb := lb) rfl eg (fun b hb => by have := hR b hb; simp; omega) (unhide HSQ) (Below.refl _ _) (fun _ => rfl) (Api w cs) (fun _ _ _ => False) (fun O O' k A B h hg hO => h.on hg hO) (fun _ _ _ _ _ h _ _ => h)
    ⟨fun _ h => h.elim, ⟨_, unhide HBx, World.ownsRow_nil _ _ _ _, fun _ _ h => h⟩, unhide HBL⟩
    (fun O k a' W => a' = ({ tmps := #[.slice none 0 0, .func (.func gf) #[] lb, .pointer (some ⟨w.heap.size, 0, none⟩), undef, .slice none 0 0, .int .i64 (gt cs k), .func (.func gf) #[] lb, .int .i64 (gt cs k), undef, undef, undef, undef, undef], defers := [] } : Act))
    (fun O k a' A B h hg => h) ?assign ?body ?done ?stop
  case assign =>
    intro l O k W K hk hO hi hK
    have HK := hide hK
    have HI := hide hi
    clear hK hi
    unfold ite
    gi_wp2
    exact unhide HK _ _ (Kpx.refl _ _ _) (unhide HI) rfl
  case body =>
    rintro l O k a' W _ _ hk hO hi rfl
    obtain ⟨v, hv, hr, hnO⟩ := hi.row
    have hb := hi.bel
    have hfar := hi.far
    have HBX := hide hv
    have HR := hide hr
    have HNO := hide hnO
    have HB := hide hb
    have HFAR := hide hfar
    have c0 := hv.cell (m := 0) rfl
    have cf := hv.frozen
    have hsz := hv.lt
    obtain ⟨x, hx⟩ : ∃ x, gt cs k = x := ⟨_, rfl⟩
    have HTK := hide (take_one (cs := cs) (k := k) (by omega))
    rw [hx] at HTK ⊢
    clear hv hr hnO hb hfar hi hx
    have hA : Below W.heap.size W (W.alloc (.cells #[.int .i64 x] 3)) := ba (Below.refl _ _) _
    have HBW : Hid (∀ wz, (W.alloc (.cells #[.int .i64 x] 3)).grownBy wz v.ownBlock → vb wz w.heap.size 23 [v]) := hide (fun wz hg => (hg.block _ ((unhide HBX).bel hA).lt (fun e => by have := ((unhide HR).lt _ e.symm).1; omega)).trans ((unhide HBX).bel hA))
    gi_wp2_with (gi_at_builtin; refine listIn_append_new _ rfl _ _ 23 rfl (w.heap.size + 1) 3 iP _ 1 8 Try.underlying23 hi1 hp0 hp1 hp2 rfl (by decide) _ _ _ rfl ((unhide HR).alloc _) _ 1 1 ([x].map (Value.int .i64)) rfl rfl (by first | exact news_cells _ _ rfl | exact news_cells _ _ (by simp) | exact news_drew _ _ (by simp)) ints_one (by unfold maxLen; omega) (by omega) (by simp; omega) ?_; intro v' wz hown' hgrow hnew; obtain ⟨g', cap', rfl⟩ := ownsRow_succ hown'; have HGR := hide hgrow; have HOW := hide hown'; have HNW := hide hnew; have bz := (unhide HBW) _ hgrow; have cz := bz.cell (m := 0) rfl; have fz := bz.frozen; clear hown' hgrow hnew bz)
    have hgr := unhide HGR
    have how := unhide HOW
    have hbz := unhide HBW _ hgr
    have hnn : ∀ b, O b → b ≠ w.heap.size := fun b hb e => by have := unhide HFAR b hb; omega
    have hkp : Below w.heap.size W wz := ((ba (Below.refl _ _) _ : Below W.heap.size W _).mono (by omega)).grown hgr (by simp; omega) (fun j hj => by have := ((unhide HR).lt j hj).1; omega)
    have hrow : Row wz (w.heap.size + 1) 3 1 (.slice (some ⟨g', 0, none⟩) (k + 1) cap') (k + 1) (cs.take (k + 1)) := by rw [unhide HTK]; unfold Row; rw [List.map_append]; exact how
    have hg1 := hrow.lt g' rfl
    have hset : ∀ (b : Nat), b ≠ w.heap.size → (wz.setCell ⟨w.heap.size, 0, none⟩ (.slice (some ⟨g', 0, none⟩) (k + 1) cap')).heap[b]? = wz.heap[b]? := fun b hb => Below.heap_setCell _ _ _ _ hb
    have hng : ∀ b, O b → b ≠ g' := by
      rintro b hb rfl
      rcases unhide HNW b rfl with h | h
      · exact unhide HNO b h hb
      · have := (hO b hb).2
        simp at h
        omega
    refine ⟨⟨hkp.os, hkp.tape, hkp.output, by simp; exact hkp.size, fun b hb hbl => ?_⟩, unhide HFAR, ⟨_, hbz.set 0 _, hrow.kept' (fun gg hgg => by cases hgg; exact hset g' (by omega)), fun gg hgg ho => by cases hgg; exact hng g' ho rfl⟩, ((unhide HB).trans hkp).setCell (p := ⟨w.heap.size, 0, none⟩) (Nat.le_refl _) _⟩
    rcases hb with hb | hb
    · have := hR b hb
      exact (hset b (by omega)).trans (hkp.block b this)
    · exact (hset b (hnn b hb)).trans ((hgr.block b (by simp; omega) (fun e => unhide HNO b e.symm hb)).trans (Below.heap_alloc _ _ _ hbl))
  case done =>
    intro O D W hD hi hK hOD
    obtain ⟨v, hv, hr, hnO⟩ := hi.row
    have HI := hide hi
    have HR := hide hr
    have HK := hide hK
    have HNO := hide hnO
    have c0 := hv.cell (m := 0) rfl
    clear hi hr hv hnO
    gi_wp2
    refine ⟨by simp, .inl ⟨_, _, rfl, run_takeDeferred (unhide HK), ?_⟩⟩
    refine ⟨_, results_tmp rfl _ _ _, v, rfl, ?_, ?_⟩
    · have h1 : Row (W.putObj D (.deferred none)) (w.heap.size + 1) 3 1 v N (cs.take N) := (unhide HR).kept' (fun g hg => World.putObj_heap_other (fun e => unhide HNO g hg (by rw [e]; exact hOD)))
      rw [← hcs, List.take_length] at h1
      rw [← hcs]
      exact h1.mono (by omega)
    · exact (unhide HI).bel.trans ⟨rfl, rfl, rfl, by simp, fun b hb => World.putObj_heap_other (by have := hD; simp at this; omega)⟩
  case stop =>
    intro O D k W _ _ h
    exact h.elim
theorem clI (gf : Nat) (lb : Array Value) (cs : List Int) (N : Nat) (R : Nat → Prop) (w : World) (hN : N ≤ 2500) (hcs : cs.length = N) (hR : ∀ b, R b → b < w.heap.size) (eg : ∀ args w, (callFunc gf args).run Try.prog w = .ok (.enter gf args) w) (hseq : SeqX Try.prog gf lb (ite cs) N R w) :
    Calls Try.prog 77 #[.func (.func gf) #[] lb] w fun e w' => ∃ v, e = .returned v ∧ Row w' w.heap.size 3 1 v N cs ∧ Below w.heap.size w w' := by
  have HA := hide (apI gf lb cs N R w hN hcs hR eg hseq)
  clear hseq eg hR
  go_enter Try.func77, Try.ntmps77
  go_wp2_with fail
  refine (unhide HA).mono ?_
  rintro e w' ⟨v, rfl, hr, hb⟩
  have HR := hide hr
  have HB := hide hb
  clear hr hb
  go_wp2_with fail
  go_ret
  exact ⟨v, rfl, unhide HR, unhide HB⟩
end Go.Proofs.Ytjhldjojkaphkaa

namespace Go.Proofs.Ytjhldjojkaphkaa
open Go.ChangeShapes Go.WideShapes Go.ChangeAt Go.RowKit Go.Shelf
set_option linter.unusedVariables false
set_option linter.unusedSimpArgs false

set_option maxHeartbeats 4000000 in
set_option maxRecDepth 100000 in
theorem ixI (u : Option Addr) (p po n c : Nat) (L : List Int) (z : Int) (w : World) (hl : L.length = n) (hn : n ≤ 9223372036854775807) (hu : Its w u p po L) :
    Calls Try.prog 96 #[.slice u n c, .int .i64 z] w fun e w' => (∃ r : Int, e = .returned (.int .i64 r) ∧ decide (0 ≤ r) = L.any (fun x => x == z)) ∧ w' = w := by
  have HU := hide hu
  have HL := hide hl
  have n0 : (0 : Int) ≤ (n : Int) := Int.natCast_nonneg _
  clear hu hl
  go_enter Try.func96, Try.ntmps96
  go_wp2_with fail
  go_loopw [8] (fun s W => ∃ i : Nat, s = .int .i64 (i : Int) ∧ i ≤ n ∧ (L.take i).any (fun x => x == z) = false ∧ W = w) (fun s _ => n - (intOf s).toNat)
  case atStart => exact ⟨0, rfl, Nat.zero_le _, by simp, rfl⟩
  case round =>
    obtain ⟨i, rfl, hi, ha, rfl⟩ := hrel
    have HA := hide ha
    clear ha
    by_cases h : i < n
    · have i1 : (i : Int) < (n : Int) := by omega
      have i0 : (0 : Int) ≤ (i : Int) := Int.natCast_nonneg _
      have iz : decide ((i : Int) < (n : Int)) = true := decide_eq_true i1
      obtain ⟨x, hx⟩ := get_some (unhide HL) h
      obtain ⟨rfl, pw, k0⟩ := (unhide HU).at hx
      have HX := hide hx
      clear pw hx
      by_cases hxz : z = x
      · have s1 : (z == x) = true := by rw [hxz]; exact beq_self_eq_true x
        have s2 : decide (z = x) = true := decide_eq_true hxz
        go_wp2_with fail
        go_ret
        refine ⟨⟨_, rfl, ?_⟩, rfl⟩
        rw [decide_eq_true i0]
        exact (List.any_eq_true.2 ⟨x, List.mem_of_getElem? (unhide HX), by rw [hxz]; exact beq_self_eq_true x⟩).symm
      · have s1 : (z == x) = false := beq_eq_false_iff_ne.2 hxz
        have s2 : decide (z = x) = false := decide_eq_false hxz
        go_wp2_with fail
        go_roundw
        case rel => exact ⟨i + 1, by simp, h, by rw [List.take_add_one, unhide HX, List.any_append, unhide HA]; simp; exact fun e => hxz e.symm, by first | rfl | trivial⟩
        case measure => simp only [intOf]; omega
    · have iz : decide ((i : Int) < (n : Int)) = false := decide_eq_false (by omega)
      have HE : Hid (L.any (fun x => x == z) = false) := hide (by have := unhide HA; rwa [List.take_of_length_le (by rw [unhide HL]; omega)] at this)
      go_wp2_with fail
      go_ret
      refine ⟨⟨_, rfl, ?_⟩, rfl⟩
      rw [unhide HE]
      rfl
theorem ctI (u : Option Addr) (p po n c : Nat) (L : List Int) (z : Int) (w : World) (hl : L.length = n) (hn : n ≤ 9223372036854775807) (hu : Its w u p po L) :
    Calls Try.prog 78 #[.slice u n c, .int .i64 z] w fun e w' => e = .returned (.bool (L.any (fun x => x == z))) ∧ w' = w := by
  have HI := hide (ixI u p po n c L z w hl hn hu)
  clear hu
  go_enter Try.func78, Try.ntmps78
  go_wp2_with fail
  refine (unhide HI).mono ?_
  rintro e w' ⟨⟨r, rfl, hr⟩, rfl⟩
  have HR := hide hr
  clear hr
  go_wp2_with fail
  go_ret
  exact ⟨by rw [← unhide HR]; rfl, rfl⟩
end Go.Proofs.Ytjhldjojkaphkaa

namespace Go.Proofs.Ytjhldjojkaphkaa
open Go.ChangeShapes Go.WideShapes Go.ChangeAt Go.RowKit Go.Shelf
set_option linter.unusedVariables false
set_option linter.unusedSimpArgs false

theorem SeqX.cong {P : Program} {g : Nat} {lb : Array Value} {enc enc' : Nat → Array Value} {N : Nat} {R : Nat → Prop} {w : World} (h : SeqX P g lb enc N R w) (he : ∀ k, k < N → enc k = enc' k) : SeqX P g lb enc' N R w :=
  fun l J Jx W hW h1 h2 h3 h4 => h l J Jx W hW h1 h2 (fun O k W1 hk hO hj => by rw [he k hk]; exact h3 O k W1 hk hO hj) h4
def lvls (s : Nat) : List Int := (List.range (lvn s)).map (lvl s)
theorem lvls_len (s : Nat) : (lvls s).length = lvn s := by simp [lvls]
theorem lvls_at {s k : Nat} (h : k < lvn s) : lvc s k = ite (lvls s) k := by
  unfold lvc ite gt lvls
  simp [h]
theorem lvls_any (s : Nat) (z : Int) : (lvls s).any (fun x => x == z) = islv s z := by
  unfold lvls islv
  rw [List.any_map]
  rfl
theorem clL (s b : Nat) (X : World) (hs1 : 1 ≤ s) (hs : s ≤ 24) (hv : vb X b 3 [.int .i64 (s : Int)]) :
    Calls Try.prog 77 #[.func (.func 93) #[] #[.pointer (some ⟨b, 0, none⟩)]] X fun e w' => ∃ q cap, e = .returned (.slice (some ⟨q, 0, none⟩) (lvn s) cap) ∧ X.heap.size ≤ q ∧ Fd w' q 0 (lvn s) cap (lvls s) ∧ Below X.heap.size X w' := by
  have hl := hv.lt
  refine (clI 93 _ (lvls s) (lvn s) (fun q => q = b) X (by have := lvn_le hs1; omega) (lvls_len s) (fun q hq => by omega) (enters_of Try.func93 (by kernel_rfl) rfl) ((lvX s b (fun q => q = b) X hs1 hs rfl hv).cong (fun k hk => lvls_at hk))).mono ?_
  rintro e w' ⟨v, rfl, hr, hb⟩
  obtain ⟨q, cap, rfl, h1, h2, h3, h4, h5⟩ := hr.full (by have := (lvn_iff (k := 0) hs1).2 (by omega); omega)
  exact ⟨q, cap, rfl, h1, ⟨h2, h3, lvls_len s, h4, h5⟩, hb⟩
/-- all blocks that are the iterator's behind the levels -/
def exC (O3 O1 : Nat → Prop) (by_ bl b6 bq br : Nat) : Nat → Prop := fun q => O3 q ∨ O1 q ∨ q = by_ ∨ q = bl ∨ q = b6 ∨ q = bq ∨ q = br
def exD (O3 O1 : Nat → Prop) (by_ bl b6 bq br b7 : Nat) : Nat → Prop := fun q => exC O3 O1 by_ bl b6 bq br q ∨ q = b7
/-- between two points that lie on no level -/
structure L3 (J : (Nat → Prop) → Nat → World → Prop) (O1 : Nat → Prop) (by_ bl b6 bq br T3 D Bs Bf l s W H n c g po cap : Nat) (L : List Int) (O3 : Nat → Prop) (b : Nat) (Y : World) : Prop where
  j : J (exC O3 O1 by_ bl b6 bq br) (cnq (cnd W H s L) (lvn s * (W * H) + b)) Y
  sh : Sh by_ Bs Bf l s W H n c g po L Y
  v6 : vb Y b6 23 [.slice (some ⟨bq, 0, none⟩) (lvn s) cap]
  fq : Fd Y bq 0 (lvn s) cap (lvls s)
  vr : vb Y br 25 [.int .i64 (W : Int), .int .i64 (H : Int), .slice (some ⟨g, po, none⟩) n c]
  dm : Y.heap[D]? = some (.deferred (some []))
  far : ∀ q, O3 q → T3 ≤ q
  big : T3 ≤ Y.heap.size
end Go.Proofs.Ytjhldjojkaphkaa

namespace Go.Proofs.Ytjhldjojkaphkaa
open Go.ChangeShapes Go.WideShapes Go.ChangeAt Go.RowKit Go.Shelf
attribute [local go_sem] Oper.semAt_some
set_option linter.unusedVariables false
set_option linter.unusedSimpArgs false

set_option maxRecDepth 100000 in
set_option maxHeartbeats 8000000 in
theorem stdX (W H n c g po Bs Bf s : Nat) (L : List Int) (R : Nat → Prop) (w : World) (hW1 : 1 ≤ W) (hW : W ≤ 24) (hH1 : 1 ≤ H) (hH : H ≤ 24) (hn : n = W * H) (hs1 : 1 ≤ s) (hs : s ≤ 24) (hRs : R Bs) (hRf : R Bf) (hRg : R g)
    (hvs : vb w Bs 3 [.int .i64 (s : Int)]) (hvf : vb w Bf 25 [.int .i64 (W : Int), .int .i64 (H : Int), .slice (some ⟨g, po, none⟩) n c]) (hF : Fd w g po n c L) :
    SeqX Try.prog 74 #[.pointer (some ⟨Bs, 0, none⟩), .pointer (some ⟨Bf, 0, none⟩)] (plc (lsq (cnd W H s L) (cnC W H s))) (lsq (cnd W H s L) (cnC W H s)).length R w := by
  intro l J Jx W0 hW0 hJ hJx hY h0
  have HY := hide hY
  have HJ := hide hJ
  have HJX := hide hJx
  have HJ0 := hide h0
  have hvs0 := hvs.bel hW0
  have hvf0 := hvf.bel hW0
  have hF0 := hF.bel hW0
  have lBs := hvs0.lt
  have lBf := hvf0.lt
  have lg := hF0.lt
  have HLM := hide (fun X => lvM (s : Int) X)
  have HTM := hide (fun X => tfoM W H n c g po X)
  have HRM := hide (fun X => risM W H n c g po X)
  have HTP := hide (fun (x y : Nat) X (hX : Fd X g po n c L) hx hy => tpP_any W H n c g po L x y X hW hH hn hX hx hy)
  have hA : Below W0.heap.size W0 (W0.alloc (.cells #[.func (.yield l) #[] #[]] 106)) := ba (Below.refl _ _) _
  have HSH : Hid (Sh W0.heap.size Bs Bf l s W H n c g po L (W0.alloc (.cells #[.func (.yield l) #[] #[]] 106))) := hide ⟨vb_new W0 106 _ _ rfl, hvs0.bel hA, hvf0.bel hA, hF0.bel hA⟩
  have HB1 := hide hA
  have s0 := hvs0.cell (m := 0) rfl
  unfold fldV at *
  clear hvs hvf hF hW0 hJ hJx hY h0 hA hvs0 hvf0 hF0 hn
  refine callsIn_of_wp_marks Try.func74 rfl trivial ?_ rfl
  simp only [Try.ntmps74, List.size_toArray, List.length_cons, List.length_nil, Nat.reduceAdd, Nat.reduceSub, Array.replicate_succ, Array.replicate_zero, List.push_toArray, List.append_toArray, List.nil_append, List.cons_append]
  gi_wp2
  refine ⟨trivial, rfl, (callsIn_wide.2 (unhide HLM _)).mono ?_⟩
  rintro _ Wq ⟨rfl, hq⟩
  rw [hq]
  clear hq s0
  gi_wp2
  have hA : Below (W0.alloc (.cells #[.func (.yield l) #[] #[]] 106)).heap.size (W0.alloc (.cells #[.func (.yield l) #[] #[]] 106)) ((W0.alloc (.cells #[.func (.yield l) #[] #[]] 106)).alloc (.cells #[.int .i64 (s : Int)] 3)) := ba (Below.refl _ _) _
  have hbl := bc (unhide HB1) hA
  have HSH2 := hide ((unhide HSH).bel hA)
  have HVL := hide (vb_new2 W0 3 [.int .i64 (s : Int)] (.cells #[.func (.yield l) #[] #[]] 106))
  have HJ1 := hide (unhide HJ (fun _ => False) (ex2 (fun _ => False) W0.heap.size (W0.heap.size + 1)) 0 _ _ (unhide HJ0) (Grw.of_bel hbl) (fun b hb => by rcases hb with h | h | h; exact h.elim; exact .inr (by omega); exact .inr (by omega)))
  have hT : ((W0.alloc (.cells #[.func (.yield l) #[] #[]] 106)).alloc (.cells #[.int .i64 (s : Int)] 3)).heap.size = W0.heap.size + 2 := by simp
  clear hA hbl HSH HB1 HJ0
  generalize (W0.alloc (.cells #[.func (.yield l) #[] #[]] 106)).alloc (.cells #[.int .i64 (s : Int)] 3) = WL at *
  refine range_x (R := fun b => b = W0.heap.size + 1) (N := lvn s) (gf := 93) (lb := #[.pointer (some ⟨W0.heap.size + 1, 0, none⟩)]) rfl (enters_of Try.func93 (by kernel_rfl) rfl) (fun b hb => by omega) (lvX s (W0.heap.size + 1) _ WL hs1 hs rfl (unhide HVL)) (Below.refl _ _) (fun _ => rfl)
    (L1 J W0.heap.size (W0.heap.size + 1) (W0.heap.size + 2) Bs Bf l s W H n c g po L) (fun O a X => ∃ k, k < (lsq (cnd W H s L) (cnC W H s)).length ∧ Jx (ex2 O W0.heap.size (W0.heap.size + 1)) k X ∧ (∀ b, O b → W0.heap.size + 2 ≤ b) ∧ W0.heap.size + 2 ≤ X.heap.size) ?hI ?hIx
    ⟨by rw [Nat.zero_mul]; exact unhide HJ1, unhide HSH2, unhide HVL, fun _ h => h.elim, by omega⟩
    (fun O a a' X => ∃ b4, vb X b4 3 [.int .i64 (lvl s a)] ∧ ¬ O b4 ∧ W0.heap.size + 2 ≤ b4 ∧ J (ex3 O W0.heap.size (W0.heap.size + 1) b4) (cnq (cnd W H s L) (a * (W * H))) X ∧ (∀ b, O b → W0.heap.size + 2 ≤ b) ∧ a' = ({ tmps := #[.func (.yield l) #[] #[], .pointer (some ⟨Bs, 0, none⟩), .pointer (some ⟨Bf, 0, none⟩), .pointer (some ⟨W0.heap.size, 0, none⟩), .pointer (some ⟨b4, 0, none⟩), undef, undef, undef, undef, .int .i64 (s : Int), .func (.func 93) #[] #[.pointer (some ⟨W0.heap.size + 1, 0, none⟩)], .int .i64 (lvl s a), undef, undef, undef, undef, undef, undef, undef, undef, undef, undef, undef, undef, undef, undef, undef, undef, undef, undef, undef, undef, undef, undef, undef, undef, undef, undef, undef, undef, undef, undef, undef, undef, undef, undef, undef, undef, undef, undef, undef, undef, undef, undef, undef], defers := [] } : Act))
    ?hAx ?assign ?body ?done ?stop
  case hI =>
    rintro O O' k A B ⟨hj, hsh, hvl, hfar, hbig⟩ hg hO
    have hbel : Below (W0.heap.size + 2) A B := hg.bel hbig hfar
    refine ⟨unhide HJ _ _ _ _ _ hj (hg.mono (fun b hb => .inl hb)) (fun b hb => ?_), hsh.grw hg hbig hfar (by omega) (by omega) (by omega) (by omega), hvl.below hbel (by omega), fun b hb => (hO b hb).elim (hfar b) (fun h => by omega), Nat.le_trans hbig hg.size⟩
    rcases hb with h | h
    · exact (hO b h).elim (fun h => .inl (.inl h)) .inr
    · exact .inl (.inr h)
  case hIx =>
    rintro O O' a A B ⟨k, hk, hj, hfar, hbig⟩ hg hO
    refine ⟨k, hk, unhide HJX _ _ _ _ _ hj (hg.mono (fun b hb => .inl hb)) (fun b hb => ?_), fun b hb => (hO b hb).elim (hfar b) (fun h => by omega), Nat.le_trans hbig hg.size⟩
    rcases hb with h | h
    · exact (hO b h).elim (fun h => .inl (.inl h)) .inr
    · exact .inl (.inr h)
  case hAx =>
    rintro O k a' A B ⟨b3, h1, h2, h3, h4, h5, h6⟩ hg
    exact ⟨b3, (hg.block _ h1.lt h2).trans h1, h2, h3, unhide HJ _ _ _ _ _ h4 (hg.mono (fun b hb => .inl (.inl hb))) (fun b hb => .inl hb), h5, h6⟩
  case assign =>
    intro l' O a X K ha hO hi hK
    have HK := hide hK
    have HI := hide hi
    clear hK hi
    unfold lvc
    gi_wp2
    have hA : Below X.heap.size X (X.alloc (.cells #[.int .i64 (lvl s a)] 3)) := ba (Below.refl _ _) _
    have h := unhide HI
    exact unhide HK _ _ (Kpx.of_bel hA) ⟨unhide HJ _ _ _ _ _ h.j (Grw.of_bel hA) (fun b hb => .inl hb), h.sh.bel hA, h.vl.bel hA, h.far, Nat.le_trans h.big hA.size⟩ ⟨X.heap.size, vb_new X 3 _ _ rfl, fun hh => by have := (hO _ hh).2; omega, h.big, unhide HJ _ _ _ _ _ h.j (Grw.of_bel hA) (fun b hb => hb.elim .inl (fun e => .inr (by omega))), h.far, rfl⟩
  case body =>
    rintro l1 O a a' X ⟨r₀, hr₀⟩ hOl ha hO hi ⟨b4, h4, hn4, hl4, hj4, _, rfl⟩
    have HI := hide hi
    have H4 := hide h4
    have HJ4 := hide hj4
    have HR0 := hide hr₀
    obtain ⟨z, hz⟩ : ∃ z, lvl s a = z := ⟨_, rfl⟩
    rw [hz] at H4 ⊢
    have HZ := hide hz
    have k0 := hi.sh.vf.cell (m := 0) rfl
    have k1 := hi.sh.vf.cell (m := 1) rfl
    have k2 := hi.sh.vf.cell (m := 2) rfl
    clear hi h4 hj4 hr₀ hz
    gi_wp2
    refine ⟨trivial, rfl, (CallsIn.inRound l1 (callsIn_wide.2 (unhide HTM _))).mono ?_⟩
    rintro _ Wq ⟨rfl, hq⟩
    rw [hq]
    clear hq k0 k1 k2
    gi_wp2
    have hA : Below X.heap.size X (X.alloc (.cells #[.int .i64 (W : Int), .int .i64 (H : Int), .slice (some ⟨g, po, none⟩) n c] 25)) := ba (Below.refl _ _) _
    have HSHa := hide ((unhide HI).sh.bel hA)
    have H4a := hide ((unhide H4).bel hA)
    have HV13 := hide (vb_new X 25 [.int .i64 (W : Int), .int .i64 (H : Int), .slice (some ⟨g, po, none⟩) n c] X.heap.size rfl)
    have HR1 := hide ((hA.block l1 (Array.getElem?_eq_some_iff.1 (unhide HR0)).1).trans (unhide HR0))
    have HKa := hide (Kpx.of_bel (R := fun q => q = W0.heap.size + 1) (O := O) hA)
    have HJa := hide (unhide HJ _ (exA (fun _ => False) O W0.heap.size (W0.heap.size + 1) b4 X.heap.size) _ _ _ (unhide HJ4) (Grw.of_bel hA) (fun q hq => by rcases hq with h | h | h | h | h | h; exact h.elim; exact .inl (.inl (.inl h)); exact .inl (.inl (.inr (.inl h))); exact .inl (.inl (.inr (.inr h))); exact .inl (.inr h); exact .inr (by omega)))
    have hT2 : (X.alloc (.cells #[.int .i64 (W : Int), .int .i64 (H : Int), .slice (some ⟨g, po, none⟩) n c] 25)).heap.size = X.heap.size + 1 := by simp
    have hb4lt := (unhide H4).lt
    have hXb := (unhide HI).big
    clear hA HJ4
    generalize X.alloc (.cells #[.int .i64 (W : Int), .int .i64 (H : Int), .slice (some ⟨g, po, none⟩) n c] 25) = Xa at *
    refine range_n (l₀ := l1) (r₀ := r₀) (unhide HR1) (R := fun q => q = X.heap.size) (N := W * H) (gf := 94) (lb := #[.pointer (some ⟨X.heap.size, 0, none⟩)]) rfl (enters_of Try.func94 (by kernel_rfl) rfl) (fun b hb => by omega) (tfoX W H n c g po X.heap.size _ Xa hW1 hW hH rfl (unhide HV13)) (Below.refl _ _) (fun _ => rfl)
      (L2 J X O W0.heap.size (W0.heap.size + 1) b4 X.heap.size (X.heap.size + 1) Bs Bf l s W H n c g po a z L) (fun O2 b Y => ∃ k, k < (lsq (cnd W H s L) (cnC W H s)).length ∧ Jx (exA O2 O W0.heap.size (W0.heap.size + 1) b4 X.heap.size) k Y ∧ (∀ q, O q → q < X.heap.size → Y.heap[q]? = X.heap[q]?) ∧ (∀ q, O2 q → X.heap.size + 1 ≤ q) ∧ X.heap.size + 1 ≤ Y.heap.size) ?hI2 ?hIx2
      ⟨unhide HJa, unhide HSHa, unhide H4a, unhide HV13, unhide HKa, fun _ h => h.elim, by omega⟩
      (fun O2 b a' Y => ∃ b5, vb Y b5 46 [.int .i64 ((tfx W b : Nat) : Int), .int .i64 ((b / W : Nat) : Int)] ∧ ¬ O2 b5 ∧ X.heap.size + 1 ≤ b5 ∧ J (exB O2 O W0.heap.size (W0.heap.size + 1) b4 X.heap.size b5) (cnq (cnd W H s L) (a * (W * H) + b)) Y ∧ a' = ({ tmps := #[.func (.yield l) #[] #[], .pointer (some ⟨Bs, 0, none⟩), .pointer (some ⟨Bf, 0, none⟩), .pointer (some ⟨W0.heap.size, 0, none⟩), .pointer (some ⟨b4, 0, none⟩), .pointer (some ⟨b5, 0, none⟩), undef, undef, undef, .int .i64 (s : Int), .func (.func 93) #[] #[.pointer (some ⟨W0.heap.size + 1, 0, none⟩)], .int .i64 z, .agg #[.int .i64 (W : Int), .int .i64 (H : Int), .slice (some ⟨g, po, none⟩) n c], .func (.func 94) #[] #[.pointer (some ⟨X.heap.size, 0, none⟩)], .agg #[.int .i64 ((tfx W b : Nat) : Int), .int .i64 ((b / W : Nat) : Int)], undef, undef, undef, undef, undef, undef, undef, undef, undef, undef, undef, undef, undef, undef, undef, undef, undef, undef, undef, undef, undef, undef, undef, undef, undef, undef, undef, undef, undef, undef, undef, undef, undef, undef, undef, undef, undef, undef, undef, undef], defers := [] } : Act))
      ?hAx2 ?assign2 ?body2 ?done2 ?stop2
    case hI2 =>
      rintro O2 O2' b A B ⟨hj, hsh, h4, h13, hkp, hfar, hbig⟩ hg hO2
      have hbel : Below (X.heap.size + 1) A B := hg.bel hbig hfar
      refine ⟨unhide HJ _ _ _ _ _ hj (hg.mono (fun b hb => .inl hb)) (fun q hq => ?_), hsh.grw hg hbig hfar (by omega) (by omega) (by omega) (by omega), h4.below hbel (by omega), h13.below hbel (by omega), ⟨hg.os.trans hkp.os, hg.tape.trans hkp.tape, hg.output.trans hkp.output, Nat.le_trans hkp.size hg.size, fun q ho hq => (hbel.block q (by omega)).trans (hkp.keep q ho hq)⟩, fun q hq => (hO2 q hq).elim (hfar q) (fun h => by omega), Nat.le_trans hbig hg.size⟩
      rcases hq with h | h
      · exact (hO2 q h).elim (fun h => .inl (.inl h)) .inr
      · exact .inl (.inr h)
    case hIx2 =>
      rintro O2 O2' b A B ⟨k, hk, hj, hkp, hfar, hbig⟩ hg hO2
      have hbel : Below (X.heap.size + 1) A B := hg.bel hbig hfar
      refine ⟨k, hk, unhide HJX _ _ _ _ _ hj (hg.mono (fun b hb => .inl hb)) (fun q hq => ?_), fun q ho hq => (hbel.block q (by omega)).trans (hkp q ho hq), fun q hq => (hO2 q hq).elim (hfar q) (fun h => by omega), Nat.le_trans hbig hg.size⟩
      rcases hq with h | h
      · exact (hO2 q h).elim (fun h => .inl (.inl h)) .inr
      · exact .inl (.inr h)
    case hAx2 =>
      rintro O2 b a' A B ⟨b5, h1, h2, h3, h4, h5⟩ hg
      exact ⟨b5, (hg.block _ h1.lt h2).trans h1, h2, h3, unhide HJ _ _ _ _ _ h4 (hg.mono (fun b hb => .inl (.inl hb))) (fun b hb => .inl hb), h5⟩
    case assign2 =>
      intro l' O2 b Y K hb hO2 hi2 hK
      have HK := hide hK
      have HI2 := hide hi2
      clear hK hi2
      unfold tfp
      gi_wp2
      have hA : Below Y.heap.size Y (Y.alloc (.cells #[.int .i64 ((tfx W b : Nat) : Int), .int .i64 ((b / W : Nat) : Int)] 46)) := ba (Below.refl _ _) _
      have h := unhide HI2
      exact unhide HK _ _ (Kpx.of_bel hA) ⟨unhide HJ _ _ _ _ _ h.j (Grw.of_bel hA) (fun b hb => .inl hb), h.sh.bel hA, h.v4.bel hA, h.v13.bel hA, h.kp.trans (Kpx.of_bel hA), h.far, Nat.le_trans h.big hA.size⟩ ⟨Y.heap.size, vb_new Y 46 _ _ rfl, fun hh => by have := (hO2 _ hh).2; omega, h.big, unhide HJ _ _ _ _ _ h.j (Grw.of_bel hA) (fun b hb => hb.elim .inl (fun e => .inr (by omega))), rfl⟩
    case body2 =>
      rintro l2 O2 b a' Y _ hOl2 hb hO2 hi2 ⟨b5, h5, hn5, hl5, hj5, rfl⟩
      have HI2 := hide hi2
      have H5 := hide h5
      have HJ5 := hide hj5
      have hWp : 0 < W := by omega
      have hcn := (cnd_1 (W := W) (H := H) (s := s) L ha hb).trans (by unfold cn1; rw [unhide HZ])
      have hcl : a * (W * H) + b < cnC W H s := by
        have h1 : (a + 1) * (W * H) ≤ lvn s * (W * H) := Nat.mul_le_mul_right _ ha
        rw [Nat.succ_mul] at h1
        unfold cnC
        omega
      obtain ⟨x, hx⟩ : ∃ x, tfx W b = x := ⟨_, rfl⟩
      obtain ⟨y, hy'⟩ : ∃ y, b / W = y := ⟨_, rfl⟩
      have hxW : x < W := by rw [← hx]; exact tfx_lt hWp
      have hyH : y < H := by rw [← hy']; exact Nat.div_lt_of_lt_mul hb
      rw [hx, hy'] at H5 hcn ⊢
      obtain ⟨κ, hκ⟩ : ∃ κ, a * (W * H) + b = κ := ⟨_, rfl⟩
      rw [hκ] at HJ5 hcn hcl
      have HOB : Hid (∀ Z : World, Y.heap.size ≤ Z.heap.size → ∀ q, exB O2 O W0.heap.size (W0.heap.size + 1) b4 X.heap.size b5 q → W0.heap.size ≤ q ∧ q < Z.heap.size) := hide (fun Z hZ q hq => by
        have h1 := (unhide HI2).big
        have h2 := (unhide H5).lt
        rcases hq with (h | h | h | h | h | h) | h
        · have := hO2 q h; omega
        · have := hO q h; omega
        · omega
        · omega
        · omega
        · omega
        · omega)
      have HVF := hide hi2.sh.vf
      have HVY := hide hi2.sh.vy
      have HV4 := hide hi2.v4
      have HTT := hide (fun X' (hX : Below Y.heap.size Y X') => unhide HTP x y X' ((unhide HI2).sh.fd.bel hX) hxW hyH)
      have HB13 := hide ((unhide HI2).v13)
      have hbig2 := hi2.big
      clear hi2 h5 hj5
      gi_wp2
      by_cases hle : tp L (y * W + x) ≤ z
      · rw [if_pos hle] at hcn
        obtain ⟨hat, hnx, hkl⟩ := cnq_some hcl hcn
        have HPL := hide (plc_at hat)
        have HNX := hide hnx
        obtain ⟨k, hk⟩ : ∃ k, cnq (cnd W H s L) κ = k := ⟨_, rfl⟩
        rw [hk] at HPL HNX HJ5 hkl
        have HD := hide (fun X' (hX : Below Y.heap.size Y X') => unhide HY (exB O2 O W0.heap.size (W0.heap.size + 1) b4 X.heap.size b5) k X' hkl (unhide HOB X' hX.size) (unhide HJ _ _ _ _ _ (unhide HJ5) (Grw.of_bel hX) (fun q hq => .inl hq)))
        rw [unhide HPL] at HD
        clear hat hnx hcn hcl
        refine wpIn_mono (st5a (t := tp L (y * W + x)) (Pst := fun r W' => (r = true ∧ J (exB O2 O W0.heap.size (W0.heap.size + 1) b4 X.heap.size b5) (k + 1) W' ∧ Kpx R (exB O2 O W0.heap.size (W0.heap.size + 1) b4 X.heap.size b5) Y W') ∨ (r = false ∧ Jx (exB O2 O W0.heap.size (W0.heap.size + 1) b4 X.heap.size b5) k W' ∧ ∀ q, exB O2 O W0.heap.size (W0.heap.size + 1) b4 X.heap.size b5 q → q < Y.heap.size → W'.heap[q]? = Y.heap[q]?)) HVF HV4 H5 HTT hle HVY (hide fun X' hX => ?hd) ?hq) (Only.to (fun _ _ h => h))
        case hd =>
          obtain ⟨fn, tmps, assign, body, h1, hR⟩ := unhide HD X' hX
          refine ⟨fn, tmps, assign, body, h1, hR.mono ?_⟩
          rintro _ W' (⟨rfl, h2, h3⟩ | ⟨rfl, h2, h3⟩)
          · exact ⟨true, rfl, .inl ⟨rfl, h2, (Kpx.of_bel hX).trans h3⟩⟩
          · exact ⟨false, rfl, .inr ⟨rfl, h2, fun q hq hl => (h3 q hq (Nat.lt_of_lt_of_le hl hX.size)).trans (hX.block q hl)⟩⟩
        case hq =>
          rintro _ W' (⟨rfl, hJ', hk'⟩ | ⟨rfl, hx', hkx⟩)
          · have HJ' := hide hJ'
            have HK' := hide hk'
            clear hJ' hk' HD
            gi_wp2
            have e1 : cnq (cnd W H s L) (a * (W * H) + (b + 1)) = k + 1 := by rw [← Nat.add_assoc, hκ]; exact unhide HNX
            have h2 := unhide HI2
            have h3 := unhide HK'
            refine ⟨h3.sub (fun q hq => .inr (.inl (hq.elim (fun e => .inr (.inr (.inr (.inr (.inr e))))) .inl))), ⟨?_, h2.sh.kp h3 (.inl (.inr (.inr (.inl rfl)))) hRs hRf hRg, h3.vb h2.v4 (.inr (.inl (.inr (.inr (.inr (.inr (.inl rfl))))))), h3.vb h2.v13 (.inr (.inl (.inr (.inr (.inr (.inr (.inr rfl))))))), h2.kp.trans (h3.sub (fun q hq => .inr (.inl (.inr (hq.elim (fun e => .inr (.inr (.inl e))) .inl))))), h2.far, Nat.le_trans h2.big h3.size⟩⟩
            rw [e1]
            exact unhide HJ _ _ _ _ _ (unhide HJ') ⟨rfl, rfl, rfl, Nat.le_refl _, fun _ _ _ => rfl⟩ (fun q hq => .inl (.inl hq))
          · have HX' := hide hx'
            have HKX := hide hkx
            clear hx' hkx HD
            gi_wp2
            have h2 := unhide HI2
            refine ⟨fun q hq hl => unhide HKX q (.inl (.inl hq)) hl, k, hkl, unhide HJX _ _ _ _ _ (unhide HX') ⟨rfl, rfl, rfl, Nat.le_refl _, fun _ _ _ => rfl⟩ (fun q hq => .inl (.inl hq)), fun q hq hl => (unhide HKX q (.inl (.inr (.inl hq))) (by omega)).trans (h2.kp.keep q (.inr hq) hl), h2.far, ?_⟩
            have h9 := unhide HKX X.heap.size (.inl (.inr (.inr (.inr (.inr (.inr rfl)))))) (unhide HB13).lt
            have h8 := (Array.getElem?_eq_some_iff.1 (h9.trans (unhide HB13))).1
            omega
      · rw [if_neg hle] at hcn
        have hnx := cnq_none hcn
        have HNX := hide hnx
        clear hnx hcn hcl
        refine wpIn_mono (st5b (l := l) (Pst := fun _ _ => True) (t := tp L (y * W + x)) HVF HV4 H5 HTT hle ?hq) (Only.to (fun _ _ h => h))
        intro W' hW'
        have HB' := hide hW'
        clear hW'
        gi_wp2
        have h2 := unhide HI2
        have h3 := unhide HB'
        have e1 : cnq (cnd W H s L) (a * (W * H) + (b + 1)) = cnq (cnd W H s L) κ := by rw [← Nat.add_assoc, hκ]; exact unhide HNX
        refine ⟨Kpx.of_bel h3, ⟨?_, h2.sh.bel h3, h2.v4.bel h3, h2.v13.bel h3, h2.kp.trans (Kpx.of_bel h3), h2.far, Nat.le_trans h2.big h3.size⟩⟩
        rw [e1]
        exact unhide HJ _ _ _ _ _ (unhide HJ5) (Grw.of_bel h3) (fun q hq => .inl (.inl hq))
    case done2 =>
      intro O2 Y hi2
      have HI2 := hide hi2
      clear hi2
      gi_wp2
      have h2 := unhide HI2
      have h1 := unhide HI
      refine ⟨h2.kp, ?_, h2.sh, h2.kp.vb h1.vl (.inl rfl), h1.far, Nat.le_trans h1.big h2.kp.size⟩
      rw [Nat.succ_mul]
      exact unhide HJ _ _ _ _ _ h2.j ⟨rfl, rfl, rfl, Nat.le_refl _, fun _ _ _ => rfl⟩ (fun q hq => .inl (.inr (hq.elim .inl (fun h => .inr (h.elim .inl (fun e => .inr (.inl e)))))))
    case stop2 =>
      rintro O2 b Y hb ⟨k, hk, hj, hkp, hfar, hbig⟩
      have HJ2 := hide hj
      have HKP := hide hkp
      clear hj hkp
      gi_wp2
      exact ⟨unhide HKP, k, hk, unhide HJX _ _ _ _ _ (unhide HJ2) ⟨rfl, rfl, rfl, Nat.le_refl _, fun _ _ _ => rfl⟩ (fun q hq => .inl (.inr (hq.elim .inl (fun h => .inr (h.elim .inl (fun e => .inr (.inl e))))))), (unhide HI).far, by omega⟩
  case done =>
    rintro O1_ D X hD hi_ hDd hOD_
    obtain ⟨O1, hO1, hi, hOD⟩ : ∃ O2 : Nat → Prop, (∀ q, O2 q → q < X.heap.size) ∧ L1 J W0.heap.size (W0.heap.size + 1) (W0.heap.size + 2) Bs Bf l s W H n c g po L O2 (lvn s) X ∧ O2 D := ⟨fun q => O1_ q ∧ q < X.heap.size, fun q h => h.2, ⟨unhide HJ _ _ _ _ _ hi_.j ⟨rfl, rfl, rfl, Nat.le_refl _, fun _ _ _ => rfl⟩ (fun q hq => .inl (hq.elim (fun h => .inl h.1) .inr)), hi_.sh, hi_.vl, fun q h => hi_.far q h.1, hi_.big⟩, hOD_, (Array.getElem?_eq_some_iff.1 hDd).1⟩
    clear hi_ hOD_
    have HI := hide hi
    clear hi
    have s0 := (unhide HI).sh.vs.cell (m := 0) rfl
    have HDd := hide hDd
    clear hDd
    gi_wp2
    refine ⟨trivial, rfl, (callsIn_wide.2 (unhide HLM _)).mono ?_⟩
    rintro _ Wq ⟨rfl, hq⟩
    rw [hq]
    clear hq s0
    gi_wp2
    have hA : Below X.heap.size X (X.alloc (.cells #[.int .i64 (s : Int)] 3)) := ba (Below.refl _ _) _
    refine ⟨trivial, rfl, (callsIn_wide.2 (clL s X.heap.size _ hs1 hs (vb_new X 3 _ _ rfl))).mono ?_⟩
    rintro _ Y ⟨bq, cap, rfl, hbq, hfq, hbY⟩
    have hXY := bc hA hbY
    have HFQ := hide hfq
    have HXY := hide hXY
    have HSHY := hide ((unhide HI).sh.bel hXY)
    have hA1 : Below Y.heap.size Y (Y.alloc (.cells #[.slice (some ⟨bq, 0, none⟩) (lvn s) cap] 23)) := ba (Below.refl _ _) _
    have HSHZ := hide ((unhide HSHY).bel hA1)
    have k0 := (unhide HSHZ).vf.cell (m := 0) rfl
    have k1 := (unhide HSHZ).vf.cell (m := 1) rfl
    have k2 := (unhide HSHZ).vf.cell (m := 2) rfl
    have HA1 := hide hA1
    clear hbY hA hfq hXY hA1
    gi_wp2
    refine ⟨trivial, rfl, (callsIn_wide.2 (unhide HRM _)).mono ?_⟩
    rintro _ Wq ⟨rfl, hq⟩
    rw [hq]
    clear hq k0 k1 k2
    gi_wp2
    have hA2 : Below (Y.alloc (.cells #[.slice (some ⟨bq, 0, none⟩) (lvn s) cap] 23)).heap.size (Y.alloc (.cells #[.slice (some ⟨bq, 0, none⟩) (lvn s) cap] 23)) ((Y.alloc (.cells #[.slice (some ⟨bq, 0, none⟩) (lvn s) cap] 23)).alloc (.cells #[.int .i64 (W : Int), .int .i64 (H : Int), .slice (some ⟨g, po, none⟩) n c] 25)) := ba (Below.refl _ _) _
    have hYZ := bc (unhide HA1) hA2
    have hXZ := bc (unhide HXY) hYZ
    have HSH3 := hide ((unhide HSHZ).bel hA2)
    have HFQ3 := hide ((unhide HFQ).bel hYZ)
    have HV6 := hide ((vb_new Y 23 [.slice (some ⟨bq, 0, none⟩) (lvn s) cap] Y.heap.size rfl).bel hA2)
    have HVR := hide (vb_new2 Y 25 [.int .i64 (W : Int), .int .i64 (H : Int), .slice (some ⟨g, po, none⟩) n c] (.cells #[.slice (some ⟨bq, 0, none⟩) (lvn s) cap] 23))
    have hDl := (Array.getElem?_eq_some_iff.1 (unhide HDd)).1
    have HDM := hide ((hXZ.block D hDl).trans (unhide HDd))
    have hXYs := (unhide HXY).size
    have hbql := (unhide HFQ).lt
    have hXb := (unhide HI).big
    have hbX : X.heap.size + 1 ≤ bq := by simpa using hbq
    have HJ3 := hide (unhide HJ _ (exC (fun _ => False) O1 W0.heap.size (W0.heap.size + 1) Y.heap.size bq (Y.heap.size + 1)) _ _ _ (unhide HI).j (Grw.of_bel hXZ) (fun q hq => by rcases hq with h | h | h | h | h | h | h; exact h.elim; exact .inl (.inl h); exact .inl (.inr (.inl h)); exact .inl (.inr (.inr h)); exact .inr (by omega); exact .inr (by omega); exact .inr (by omega)))
    have hT3 : ((Y.alloc (.cells #[.slice (some ⟨bq, 0, none⟩) (lvn s) cap] 23)).alloc (.cells #[.int .i64 (W : Int), .int .i64 (H : Int), .slice (some ⟨g, po, none⟩) n c] 25)).heap.size = Y.heap.size + 2 := by simp
    clear hA2 hYZ hXZ HSHZ HA1 HDd
    generalize (Y.alloc (.cells #[.slice (some ⟨bq, 0, none⟩) (lvn s) cap] 23)).alloc (.cells #[.int .i64 (W : Int), .int .i64 (H : Int), .slice (some ⟨g, po, none⟩) n c] 25) = WZ at *
    refine range_x (R := fun q => q = Y.heap.size + 1) (N := W * H) (gf := 86) (lb := #[.pointer (some ⟨Y.heap.size + 1, 0, none⟩)]) rfl (enters_of Try.func86 (by kernel_rfl) rfl) (fun b hb => by omega) (risX W H n c g po (Y.heap.size + 1) _ WZ hW1 hW hH rfl (unhide HVR)) (Below.refl _ _) (fun _ => rfl)
      (L3 J O1 W0.heap.size (W0.heap.size + 1) Y.heap.size bq (Y.heap.size + 1) (Y.heap.size + 2) D Bs Bf l s W H n c g po cap L) (fun O3 b Z => ∃ k, k < (lsq (cnd W H s L) (cnC W H s)).length ∧ Jx (exC O3 O1 W0.heap.size (W0.heap.size + 1) Y.heap.size bq (Y.heap.size + 1)) k Z ∧ Z.heap[D]? = some (.deferred (some [])) ∧ (∀ q, O3 q → Y.heap.size + 2 ≤ q) ∧ Y.heap.size + 2 ≤ Z.heap.size) ?hI3 ?hIx3
      ⟨unhide HJ3, unhide HSH3, unhide HV6, unhide HFQ3, unhide HVR, unhide HDM, fun _ h => h.elim, by omega⟩
      (fun O3 b a' Z => ∃ b7, vb Z b7 46 [.int .i64 ((b % W : Nat) : Int), .int .i64 ((b / W : Nat) : Int)] ∧ ¬ O3 b7 ∧ Y.heap.size + 2 ≤ b7 ∧ J (exD O3 O1 W0.heap.size (W0.heap.size + 1) Y.heap.size bq (Y.heap.size + 1) b7) (cnq (cnd W H s L) (lvn s * (W * H) + b)) Z ∧ a' = ({ tmps := #[.func (.yield l) #[] #[], .pointer (some ⟨Bs, 0, none⟩), .pointer (some ⟨Bf, 0, none⟩), .pointer (some ⟨W0.heap.size, 0, none⟩), undef, undef, .pointer (some ⟨Y.heap.size, 0, none⟩), .pointer (some ⟨b7, 0, none⟩), undef, .int .i64 (s : Int), .func (.func 93) #[] #[.pointer (some ⟨W0.heap.size + 1, 0, none⟩)], undef, undef, undef, undef, undef, undef, undef, undef, undef, undef, undef, undef, undef, undef, undef, undef, undef, undef, undef, undef, .int .i64 (s : Int), .func (.func 93) #[] #[.pointer (some ⟨X.heap.size, 0, none⟩)], .slice (some ⟨bq, 0, none⟩) (lvn s) cap, .agg #[.int .i64 (W : Int), .int .i64 (H : Int), .slice (some ⟨g, po, none⟩) n c], .func (.func 86) #[] #[.pointer (some ⟨Y.heap.size + 1, 0, none⟩)], .agg #[.int .i64 ((b % W : Nat) : Int), .int .i64 ((b / W : Nat) : Int)], undef, undef, undef, undef, undef, undef, undef, undef, undef, undef, undef, undef, undef, undef, undef, undef, undef, undef], defers := [] } : Act))
      ?hAx3 ?assign3 ?body3 ?done3 ?stop3
    case hI3 =>
      rintro O3 O3' b A B ⟨hj, hsh, h6, hfq, hvr, hdm, hfar, hbig⟩ hg hO3
      have hbel : Below (Y.heap.size + 2) A B := hg.bel hbig hfar
      refine ⟨unhide HJ _ _ _ _ _ hj (hg.mono (fun b hb => .inl hb)) (fun q hq => ?_), hsh.grw hg hbig hfar (by omega) (by omega) (by omega) (by omega), h6.below hbel (by omega), hfq.blk (hbel.block bq (by omega)), hvr.below hbel (by omega), (hbel.block D (by omega)).trans hdm, fun q hq => (hO3 q hq).elim (hfar q) (fun h => by omega), Nat.le_trans hbig hg.size⟩
      rcases hq with h | h
      · exact (hO3 q h).elim (fun h => .inl (.inl h)) .inr
      · exact .inl (.inr h)
    case hIx3 =>
      rintro O3 O3' b A B ⟨k, hk, hj, hdm, hfar, hbig⟩ hg hO3
      have hbel : Below (Y.heap.size + 2) A B := hg.bel hbig hfar
      refine ⟨k, hk, unhide HJX _ _ _ _ _ hj (hg.mono (fun b hb => .inl hb)) (fun q hq => ?_), (hbel.block D (by omega)).trans hdm, fun q hq => (hO3 q hq).elim (hfar q) (fun h => by omega), Nat.le_trans hbig hg.size⟩
      rcases hq with h | h
      · exact (hO3 q h).elim (fun h => .inl (.inl h)) .inr
      · exact .inl (.inr h)
    case hAx3 =>
      rintro O3 b a' A B ⟨b7, h1, h2, h3, h4, h5⟩ hg
      exact ⟨b7, (hg.block _ h1.lt h2).trans h1, h2, h3, unhide HJ _ _ _ _ _ h4 (hg.mono (fun b hb => .inl (.inl hb))) (fun b hb => .inl hb), h5⟩
    case assign3 =>
      intro l' O3 b Z K hb hO3 hi3 hK
      have HK := hide hK
      have HI3 := hide hi3
      clear hK hi3
      unfold ptk
      gi_wp2
      have hA : Below Z.heap.size Z (Z.alloc (.cells #[.int .i64 ((b % W : Nat) : Int), .int .i64 ((b / W : Nat) : Int)] 46)) := ba (Below.refl _ _) _
      have h := unhide HI3
      exact unhide HK _ _ (Kpx.of_bel hA) ⟨unhide HJ _ _ _ _ _ h.j (Grw.of_bel hA) (fun b hb => .inl hb), h.sh.bel hA, h.v6.bel hA, h.fq.bel hA, h.vr.bel hA, (hA.block D (Array.getElem?_eq_some_iff.1 h.dm).1).trans h.dm, h.far, Nat.le_trans h.big hA.size⟩ ⟨Z.heap.size, vb_new Z 46 _ _ rfl, fun hh => by have := (hO3 _ hh).2; omega, h.big, unhide HJ _ _ _ _ _ h.j (Grw.of_bel hA) (fun b hb => hb.elim .inl (fun e => .inr (by omega))), rfl⟩
    case body3 =>
      rintro l3 O3 b a' Z _ hOl3 hb hO3 hi3 ⟨b7, h7, hn7, hl7, hj7, rfl⟩
      have HI3 := hide hi3
      have H7 := hide h7
      have HJ7 := hide hj7
      have hWp : 0 < W := by omega
      have hcn := (cnd_2 (W := W) (H := H) (s := s) L b)
      have hcl : lvn s * (W * H) + b < cnC W H s := by unfold cnC; omega
      have hxy : b / W * W + b % W = b := Nat.div_add_mod' b W
      unfold cn2 at hcn
      obtain ⟨x, hx⟩ : ∃ x, b % W = x := ⟨_, rfl⟩
      obtain ⟨y, hy'⟩ : ∃ y, b / W = y := ⟨_, rfl⟩
      have hxW : x < W := by rw [← hx]; exact Nat.mod_lt _ hWp
      have hyH : y < H := by rw [← hy']; exact Nat.div_lt_of_lt_mul hb
      rw [hx, hy'] at hxy
      rw [hx, hy'] at H7 hcn ⊢
      obtain ⟨κ, hκ⟩ : ∃ κ, lvn s * (W * H) + b = κ := ⟨_, rfl⟩
      rw [hκ] at HJ7 hcn hcl
      have HOB : Hid (∀ V : World, Z.heap.size ≤ V.heap.size → ∀ q, exD O3 O1 W0.heap.size (W0.heap.size + 1) Y.heap.size bq (Y.heap.size + 1) b7 q → W0.heap.size ≤ q ∧ q < V.heap.size) := hide (fun V hV q hq => by
        have h1 := (unhide HI3).big
        have h2 := (unhide H7).lt
        have h3 := (unhide HI).far
        rcases hq with (h | h | h | h | h | h | h) | h
        · have := hO3 q h; omega
        · have := h3 q h; have := hO1 q h; omega
        · omega
        · omega
        · omega
        · omega
        · omega
        · omega)
      have HTT := hide (fun X' (hX : Below Z.heap.size Z X') => unhide HTP x y X' ((unhide HI3).sh.fd.bel hX) hxW hyH)
      rw [hxy] at HTT
      obtain ⟨t, ht⟩ : ∃ t, tp L b = t := ⟨_, rfl⟩
      rw [ht] at HTT hcn
      have HCT := hide (fun X' (hX : Below Z.heap.size Z X') => ctI (some ⟨bq, 0, none⟩) bq 0 (lvn s) cap (lvls s) t X' (lvls_len s) (by have := lvn_le hs1; omega) ((unhide HI3).fq.bel hX).its)
      rw [lvls_any] at HCT
      have k0 := hi3.sh.vf.cell (m := 0) rfl
      have k1 := hi3.sh.vf.cell (m := 1) rfl
      have k2 := hi3.sh.vf.cell (m := 2) rfl
      have p0 := h7.cell (m := 0) rfl
      have p1 := h7.cell (m := 1) rfl
      rw [hx] at p0
      rw [hy'] at p1
      clear hi3 h7 hj7 hx hy' ht
      gi_wp2
      refine ⟨trivial, rfl, (CallsIn.inRound l3 (callsIn_wide.2 (unhide HTT _ (Below.refl _ _)))).mono ?_⟩
      rintro _ Zq ⟨rfl, hbz⟩
      have c6 := ((unhide HI3).v6.bel hbz).cell (m := 0) rfl
      have cy := ((unhide HI3).sh.vy.bel hbz).cell (m := 0) rfl
      have q0 := ((unhide H7).bel hbz).cell (m := 0) rfl
      have q1 := ((unhide H7).bel hbz).cell (m := 1) rfl
      have HBZ := hide hbz
      have hfz := unhide HCT _ hbz
      clear k0 k1 k2 p0 p1 hbz
      cases hil : islv s t with
      | true =>
        rw [hil] at hfz hcn
        have HFZ := hide hfz
        rw [if_pos rfl] at hcn
        have HNX := hide (cnq_none hcn)
        clear hfz hcn hcl
        gi_wp2
        refine ⟨trivial, rfl, (CallsIn.inRound l3 (callsIn_wide.2 (unhide HFZ))).mono ?_⟩
        rintro _ Zr ⟨rfl, rfl⟩
        gi_wp2
        refine ⟨(fun f hf => by cases hf), ?_⟩
        gi_wp2
        have h2 := unhide HI3
        have h3 := unhide HBZ
        have e1 : cnq (cnd W H s L) (lvn s * (W * H) + (b + 1)) = cnq (cnd W H s L) κ := by rw [← Nat.add_assoc, hκ]; exact unhide HNX
        refine ⟨Kpx.of_bel h3, ⟨?_, h2.sh.bel h3, h2.v6.bel h3, h2.fq.bel h3, h2.vr.bel h3, (h3.block D (Array.getElem?_eq_some_iff.1 h2.dm).1).trans h2.dm, h2.far, Nat.le_trans h2.big h3.size⟩⟩
        rw [e1]
        exact unhide HJ _ _ _ _ _ (unhide HJ7) (Grw.of_bel h3) (fun q hq => .inl (.inl hq))
      | false =>
        rw [hil] at hfz hcn
        have HFZ := hide hfz
        rw [if_neg (by simp)] at hcn
        obtain ⟨hat, hnx, hkl⟩ := cnq_some hcl hcn
        have HPL := hide (plc_at hat)
        have HNX := hide hnx
        obtain ⟨k, hk⟩ : ∃ k, cnq (cnd W H s L) κ = k := ⟨_, rfl⟩
        rw [hk] at HPL HNX HJ7 hkl
        obtain ⟨fn, tmps, assign, body, hy, hR⟩ := unhide HY (exD O3 O1 W0.heap.size (W0.heap.size + 1) Y.heap.size bq (Y.heap.size + 1) b7) k Zq hkl (unhide HOB Zq (unhide HBZ).size) (unhide HJ _ _ _ _ _ (unhide HJ7) (Grw.of_bel (unhide HBZ)) (fun q hq => .inl hq))
        rw [unhide HPL] at hy
        unfold plV at hy
        clear hfz hcn hcl hat hnx
        gi_wp2
        refine ⟨trivial, rfl, (CallsIn.inRound l3 (callsIn_wide.2 (unhide HFZ))).mono ?_⟩
        rintro _ Zr ⟨rfl, rfl⟩
        gi_wp2
        refine ⟨rfl, hR.mono ?_⟩
        rintro _ W' (⟨rfl, hJ', hk'⟩ | ⟨rfl, hx', hkx⟩)
        · have HJ' := hide hJ'
          have HK' := hide ((Kpx.of_bel (R := R) (O := exD O3 O1 W0.heap.size (W0.heap.size + 1) Y.heap.size bq (Y.heap.size + 1) b7) (unhide HBZ)).trans hk')
          clear hJ' hk' hR hy
          gi_wp2
          have e1 : cnq (cnd W H s L) (lvn s * (W * H) + (b + 1)) = k + 1 := by rw [← Nat.add_assoc, hκ]; exact unhide HNX
          have h2 := unhide HI3
          have h3 := unhide HK'
          refine ⟨h3.sub (fun q hq => .inr (.inl (hq.elim (fun e => .inr (.inr (.inr (.inr (.inr (.inr e)))))) .inl))), ⟨?_, h2.sh.kp h3 (.inl (.inr (.inr (.inl rfl)))) hRs hRf hRg, h3.vb h2.v6 (.inr (.inl (.inr (.inr (.inr (.inr (.inl rfl))))))), h2.fq.blk (h3.keep bq (.inr (.inl (.inr (.inr (.inr (.inr (.inr (.inl rfl)))))))) h2.fq.lt), h3.vb h2.vr (.inr (.inl (.inr (.inr (.inr (.inr (.inr (.inr rfl)))))))), (h3.keep D (.inr (.inl (.inr (.inl hOD)))) (Array.getElem?_eq_some_iff.1 h2.dm).1).trans h2.dm, h2.far, Nat.le_trans h2.big h3.size⟩⟩
          rw [e1]
          exact unhide HJ _ _ _ _ _ (unhide HJ') ⟨rfl, rfl, rfl, Nat.le_refl _, fun _ _ _ => rfl⟩ (fun q hq => .inl (.inl hq))
        · have HX' := hide hx'
          have HKX := hide (fun q hq (hl : q < Z.heap.size) => (hkx q hq (Nat.lt_of_lt_of_le hl (unhide HBZ).size)).trans ((unhide HBZ).block q hl))
          clear hx' hkx hR hy
          gi_wp2
          have h2 := unhide HI3
          refine ⟨fun q hq hl => unhide HKX q (.inl (.inl hq)) hl, k, hkl, unhide HJX _ _ _ _ _ (unhide HX') ⟨rfl, rfl, rfl, Nat.le_refl _, fun _ _ _ => rfl⟩ (fun q hq => .inl (.inl hq)), (unhide HKX D (.inl (.inr (.inl hOD))) (Array.getElem?_eq_some_iff.1 h2.dm).1).trans h2.dm, h2.far, ?_⟩
          have h9 := unhide HKX (Y.heap.size + 1) (.inl (.inr (.inr (.inr (.inr (.inr (.inr rfl))))))) h2.vr.lt
          have h8 := (Array.getElem?_eq_some_iff.1 (h9.trans h2.vr)).1
          omega
    case done3 =>
      intro O3 D3 Z hD3 hi3 hK3 hOD3
      have HI3 := hide hi3
      have HK3 := hide hK3
      clear hi3 hK3
      gi_wp2
      refine ⟨by simp, .inl ⟨_, _, rfl, run_takeDeferred (unhide HK3), ?_⟩⟩
      have HK4 := hide ((World.putObj_heap_other (w := Z) (o := .deferred none) (show D ≠ D3 by omega)).trans (unhide HI3).dm)
      refine ⟨by simp, .inl ⟨_, _, rfl, run_takeDeferred (unhide HK4), ?_⟩⟩
      exact ⟨_, results_none rfl _ _ _, ⟨_, rfl⟩, exC O3 O1 W0.heap.size (W0.heap.size + 1) Y.heap.size bq (Y.heap.size + 1), .inl (unhide HJ _ _ _ _ _ (unhide HJ _ _ _ _ _ (unhide HI3).j (Grw.put (.inl hOD3) _) (fun b hb => .inl hb)) (Grw.put (.inr (.inl hOD)) _) (fun b hb => .inl hb))⟩
    case stop3 =>
      rintro O3 D3 b Z hD3 hb ⟨k, hk, hj, hdm, hfar, hbig⟩ hK3 hOD3
      have HJ3 := hide hj
      have HDM3 := hide hdm
      have HK3 := hide hK3
      clear hj hdm hK3
      gi_wp2
      refine ⟨by simp, .inl ⟨_, _, rfl, run_takeDeferred (unhide HK3), ?_⟩⟩
      have HK4 := hide ((World.putObj_heap_other (w := Z) (o := .deferred none) (show D ≠ D3 by omega)).trans (unhide HDM3))
      refine ⟨by simp, .inl ⟨_, _, rfl, run_takeDeferred (unhide HK4), ?_⟩⟩
      exact ⟨_, results_none rfl _ _ _, ⟨_, rfl⟩, exC O3 O1 W0.heap.size (W0.heap.size + 1) Y.heap.size bq (Y.heap.size + 1), .inr ⟨k, hk, unhide HJX _ _ _ _ _ (unhide HJX _ _ _ _ _ (unhide HJ3) (Grw.put (.inl hOD3) _) (fun b hb => .inl hb)) (Grw.put (.inr (.inl hOD)) _) (fun b hb => .inl hb)⟩⟩
  case stop =>
    rintro O D a X hD ha ⟨k, hk, hj, hfar, hbig⟩ hK hOD
    have HJ3 := hide hj
    have HK := hide hK
    clear hj hK
    gi_wp2
    refine ⟨by simp, .inl ⟨_, _, rfl, run_takeDeferred (unhide HK), ?_⟩⟩
    exact ⟨_, results_none rfl _ _ _, ⟨_, rfl⟩, _, .inr ⟨k, hk, unhide HJX _ _ _ _ _ (unhide HJ3) (Grw.put (.inl hOD) _) (fun b hb => .inl hb)⟩⟩
end Go.Proofs.Ytjhldjojkaphkaa

namespace Go.Proofs.Ytjhldjojkaphkaa
open Go.ChangeShapes Go.WideShapes Go.ChangeAt Go.RowKit Go.Shelf
attribute [local go_sem] Oper.semAt_some
set_option linter.unusedVariables false
set_option linter.unusedSimpArgs false

theorem takM (W H n c g po gf : Nat) (lb : Array Value) (r : Int) (w : World) :
    Calls Try.prog 39 #[fldV (W : Int) (H : Int) (some ⟨g, po, none⟩) n c, .int .i64 r, .func (.func gf) #[] lb] w fun e w' => e = .returned (.func (.func 72) #[] #[.pointer (some ⟨w.heap.size, 0, none⟩), .pointer (some ⟨w.heap.size + 2, 0, none⟩), .pointer (some ⟨w.heap.size + 1, 0, none⟩)]) ∧ w' = ((w.alloc (.cells #[.int .i64 (W : Int), .int .i64 (H : Int), .slice (some ⟨g, po, none⟩) n c] 25)).alloc (.cells #[.int .i64 r] 3)).alloc (.cells #[.func (.func gf) #[] lb] 69) := by
  unfold fldV
  go_enter Try.func39, Try.ntmps39
  go_wp2_with fail
  go_ret
  exact ⟨rfl, rfl⟩
/-- the places where a tool may stand, and those of them that take something -/
def plcs (W H s : Nat) (L : List Int) : List (Nat × Nat × Int) := lsq (cnd W H s L) (cnC W H s)
def zzL (W H r s : Nat) (T L : List Int) : List (Nat × Nat × Int) := lsq (tkd W H r ⟨T, 0, 0, 0⟩ (plcs W H s L)) (plcs W H s L).length
theorem plcs_ok {W H s : Nat} {L : List Int} (hW : 0 < W) (hL : ∀ i, 0 ≤ tp L i ∧ tp L i ≤ 24) : ∀ p ∈ plcs W H s L, p.1 < W ∧ p.2.1 < H ∧ 0 ≤ p.2.2 ∧ p.2.2 ≤ 24 := by
  intro p hp
  unfold plcs lsq at hp
  obtain ⟨c, hc, he⟩ := List.mem_filterMap.1 hp
  rw [List.mem_range] at hc
  unfold cnd at he
  by_cases h : c < lvn s * (W * H)
  · rw [if_pos h] at he
    have hWH : 0 < W * H := Nat.pos_of_ne_zero (fun e => by rw [e, Nat.mul_zero] at h; omega)
    unfold cn1 at he
    split at he
    · simp only [Option.some.injEq] at he
      subst he
      have := lvl_bd s (c / (W * H))
      exact ⟨tfx_lt hW, Nat.div_lt_of_lt_mul (Nat.mod_lt _ hWH), this.1, this.2⟩
    · cases he
  · rw [if_neg h] at he
    unfold cn2 at he
    unfold cnC at hc
    split at he
    · cases he
    · simp only [Option.some.injEq] at he
      subst he
      have := hL (c - lvn s * (W * H))
      exact ⟨Nat.mod_lt _ hW, Nat.div_lt_of_lt_mul (by omega), this.1, this.2⟩
theorem zgX (W H n c g po r s g2 c2 : Nat) (T L : List Int) (w : World) (hW1 : 1 ≤ W) (hW : W ≤ 24) (hH1 : 1 ≤ H) (hH : H ≤ 24) (hr : r ≤ 3) (hs1 : 1 ≤ s) (hs : s ≤ 24) (hn : n = W * H)
    (hF : Fd w g po n c T) (hO : MOk n ⟨T, 0, 0, 0⟩) (hF2 : Fd w g2 0 n c2 L) (hL : ∀ i, 0 ≤ tp L i ∧ tp L i ≤ 24) :
    SeqX Try.prog 72 #[.pointer (some ⟨w.heap.size + 2, 0, none⟩), .pointer (some ⟨w.heap.size + 4, 0, none⟩), .pointer (some ⟨w.heap.size + 3, 0, none⟩)] (plc (zzL W H r s T L)) (zzL W H r s T L).length (fun q => (q = w.heap.size ∨ q = w.heap.size + 1 ∨ q = g2) ∨ q = w.heap.size + 3)
      (((((w.alloc (.cells #[.int .i64 (W : Int), .int .i64 (H : Int), .slice (some ⟨g2, 0, none⟩) n c2] 25)).alloc (.cells #[.int .i64 (s : Int)] 3)).alloc (.cells #[.int .i64 (W : Int), .int .i64 (H : Int), .slice (some ⟨g, po, none⟩) n c] 25)).alloc (.cells #[.int .i64 (r : Int)] 3)).alloc (.cells #[.func (.func 74) #[] #[.pointer (some ⟨w.heap.size + 1, 0, none⟩), .pointer (some ⟨w.heap.size, 0, none⟩)]] 69)) := by
  have hg2 := hF2.lt
  have b1 : Below w.heap.size w (w.alloc (.cells #[.int .i64 (W : Int), .int .i64 (H : Int), .slice (some ⟨g2, 0, none⟩) n c2] 25)) := ba (Below.refl _ _) _
  have v1 := vb_new w 25 [.int .i64 (W : Int), .int .i64 (H : Int), .slice (some ⟨g2, 0, none⟩) n c2] w.heap.size rfl
  have z1 : (w.alloc (.cells #[.int .i64 (W : Int), .int .i64 (H : Int), .slice (some ⟨g2, 0, none⟩) n c2] 25)).heap.size = w.heap.size + 1 := by simp
  generalize w.alloc (.cells #[.int .i64 (W : Int), .int .i64 (H : Int), .slice (some ⟨g2, 0, none⟩) n c2] 25) = w1 at *
  have b2 : Below w1.heap.size w1 (w1.alloc (.cells #[.int .i64 (s : Int)] 3)) := ba (Below.refl _ _) _
  have v2 := vb_new w1 3 [.int .i64 (s : Int)] (w.heap.size + 1) z1.symm
  have z2 : (w1.alloc (.cells #[.int .i64 (s : Int)] 3)).heap.size = w.heap.size + 2 := by simp [z1]
  generalize w1.alloc (.cells #[.int .i64 (s : Int)] 3) = w2 at *
  have b3 : Below w2.heap.size w2 (w2.alloc (.cells #[.int .i64 (W : Int), .int .i64 (H : Int), .slice (some ⟨g, po, none⟩) n c] 25)) := ba (Below.refl _ _) _
  have v3 := vb_new w2 25 [.int .i64 (W : Int), .int .i64 (H : Int), .slice (some ⟨g, po, none⟩) n c] (w.heap.size + 2) z2.symm
  have z3 : (w2.alloc (.cells #[.int .i64 (W : Int), .int .i64 (H : Int), .slice (some ⟨g, po, none⟩) n c] 25)).heap.size = w.heap.size + 3 := by simp [z2]
  generalize w2.alloc (.cells #[.int .i64 (W : Int), .int .i64 (H : Int), .slice (some ⟨g, po, none⟩) n c] 25) = w3 at *
  have b4 : Below w3.heap.size w3 (w3.alloc (.cells #[.int .i64 (r : Int)] 3)) := ba (Below.refl _ _) _
  have v4 := vb_new w3 3 [.int .i64 (r : Int)] (w.heap.size + 3) z3.symm
  have z4 : (w3.alloc (.cells #[.int .i64 (r : Int)] 3)).heap.size = w.heap.size + 4 := by simp [z3]
  generalize w3.alloc (.cells #[.int .i64 (r : Int)] 3) = w4 at *
  have b5 : Below w4.heap.size w4 (w4.alloc (.cells #[.func (.func 74) #[] #[.pointer (some ⟨w.heap.size + 1, 0, none⟩), .pointer (some ⟨w.heap.size, 0, none⟩)]] 69)) := ba (Below.refl _ _) _
  have v5 := vb_new w4 69 [.func (.func 74) #[] #[.pointer (some ⟨w.heap.size + 1, 0, none⟩), .pointer (some ⟨w.heap.size, 0, none⟩)]] (w.heap.size + 4) z4.symm
  have z5 : (w4.alloc (.cells #[.func (.func 74) #[] #[.pointer (some ⟨w.heap.size + 1, 0, none⟩), .pointer (some ⟨w.heap.size, 0, none⟩)]] 69)).heap.size = w.heap.size + 5 := by simp [z4]
  generalize w4.alloc (.cells #[.func (.func 74) #[] #[.pointer (some ⟨w.heap.size + 1, 0, none⟩), .pointer (some ⟨w.heap.size, 0, none⟩)]] 69) = w5 at *
  have c5 := b5
  have c4 := bc b4 b5
  have c3 := bc b3 c4
  have c2' := bc b2 c3
  have c1 := bc b1 c2'
  exact tkX W H n c g po (w.heap.size + 2) (w.heap.size + 4) (w.heap.size + 3) r 74 _ T (plcs W H s L) (fun q => q = w.heap.size ∨ q = w.heap.size + 1 ∨ q = g2) _ w5 hW1 hW hH1 hH hr hn (fun b hb => .inl hb) (.inr rfl) (fun b hb => by omega)
    (v3.bel c4) v5 (v4.bel b5) (hF.bel c1) hO (plcs_ok hW1 hL) (enters_of Try.func74 (by kernel_rfl) rfl)
    (stdX W H n c2 g2 0 (w.heap.size + 1) w.heap.size s L _ w5 hW1 hW hH1 hH hn hs1 hs (.inr (.inl rfl)) (.inl rfl) (.inr (.inr rfl)) (v2.bel c3) (v1.bel c2') (hF2.bel c1))
end Go.Proofs.Ytjhldjojkaphkaa

namespace Go.Proofs.Ytjhldjojkaphkaa
open Go.ChangeShapes Go.WideShapes Go.ChangeAt Go.RowKit Go.Shelf
attribute [local go_sem] Oper.semAt_some
set_option linter.unusedVariables false
set_option linter.unusedSimpArgs false

noncomputable def reg9 (id : Nat) : Go.Code := match Try.f9.body with | some c => (regOfR id c).getD .skip | none => .skip
set_option maxHeartbeats 4000000 in
set_option maxRecDepth 100000 in
theorem zg5' {s0 s1 s5 s6 s7 s8 s9 s10 s11 s13 s14 s15 s16 s17 s18 s19 s20 s21 s22 s23 s24 s25 s26 s27 s28 s29 s30 s31 s32 s33 s34 s35 s36 s37 s38 s39 s40 s41 s42 s43 s44 s45 s46 s47 s48 s49 s50 s51 s52 s53 s54 s55 s56 s57 s58 s59 s60 s61 s62 s63 s64 s65 s66 s67 : Value} {b4 b12 W H n c g po g2 c2 : Nat} {r s : Nat} {V : World} {sw zw : World → World} {K_ : Act → World → Prop}
    (H4 : Hid (vb V b4 25 [.int .i64 (W : Int), .int .i64 (H : Int), .slice (some ⟨g, po, none⟩) n c])) (H12 : Hid (vb V b12 25 [.int .i64 (W : Int), .int .i64 (H : Int), .slice (some ⟨g2, 0, none⟩) n c2]))
    (HT4 : Hid (∀ X, Below V.heap.size V X → Calls Try.prog 40 #[.agg #[.int .i64 (W : Int), .int .i64 (H : Int), .slice (some ⟨g2, 0, none⟩) n c2], .int .i64 (s : Int)] X fun e w' => e = .returned (.func (.func 74) #[] #[.pointer (some ⟨X.heap.size + 1, 0, none⟩), .pointer (some ⟨X.heap.size, 0, none⟩)]) ∧ Below X.heap.size X w' ∧ w' = sw X))
    (HT5 : Hid (∀ X, Below V.heap.size V X → Calls Try.prog 39 #[.agg #[.int .i64 (W : Int), .int .i64 (H : Int), .slice (some ⟨g, po, none⟩) n c], .int .i64 (r : Int), .func (.func 74) #[] #[.pointer (some ⟨X.heap.size + 1, 0, none⟩), .pointer (some ⟨X.heap.size, 0, none⟩)]] (sw X) fun e w' => e = .returned (.func (.func 72) #[] #[.pointer (some ⟨X.heap.size + 2, 0, none⟩), .pointer (some ⟨X.heap.size + 4, 0, none⟩), .pointer (some ⟨X.heap.size + 3, 0, none⟩)]) ∧ Below X.heap.size X w' ∧ w' = zw X))
    (hQ : ∀ (X : World), Below V.heap.size V X → K_ { tmps := #[s0, s1, .int .i64 (r : Int), .int .i64 (s : Int), .pointer (some ⟨b4, 0, none⟩), s5, s6, s7, s8, s9, s10, s11, .pointer (some ⟨b12, 0, none⟩), s13, s14, s15, s16, s17, s18, s19, s20, s21, s22, s23, s24, s25, s26, s27, s28, s29, s30, s31, s32, s33, .agg #[.int .i64 (W : Int), .int .i64 (H : Int), .slice (some ⟨g, po, none⟩) n c], .int .i64 (r : Int), .agg #[.int .i64 (W : Int), .int .i64 (H : Int), .slice (some ⟨g2, 0, none⟩) n c2], .int .i64 (s : Int), .func (.func 74) #[] #[.pointer (some ⟨X.heap.size + 1, 0, none⟩), .pointer (some ⟨X.heap.size, 0, none⟩)], .func (.func 72) #[] #[.pointer (some ⟨X.heap.size + 2, 0, none⟩), .pointer (some ⟨X.heap.size + 4, 0, none⟩), .pointer (some ⟨X.heap.size + 3, 0, none⟩)], s40, s41, s42, s43, s44, s45, s46, s47, s48, s49, s50, s51, s52, s53, s54, s55, s56, s57, s58, s59, s60, s61, s62, s63, s64, s65, s66, s67], defers := [] } (zw X)) :
    Go.Code.wpIn Fence.wide 0 Try.prog (reg9 5) (Only K_) { tmps := #[s0, s1, .int .i64 (r : Int), .int .i64 (s : Int), .pointer (some ⟨b4, 0, none⟩), s5, s6, s7, s8, s9, s10, s11, .pointer (some ⟨b12, 0, none⟩), s13, s14, s15, s16, s17, s18, s19, s20, s21, s22, s23, s24, s25, s26, s27, s28, s29, s30, s31, s32, s33, s34, s35, s36, s37, s38, s39, s40, s41, s42, s43, s44, s45, s46, s47, s48, s49, s50, s51, s52, s53, s54, s55, s56, s57, s58, s59, s60, s61, s62, s63, s64, s65, s66, s67], defers := [] } V := by
  have HQ := hide hQ
  clear hQ
  conv => arg 4; whnf
  refine wpIn_region_inv (fun Lb A W_ => ∃ (u0 u1 u2 u3 u4 u5 : Bool) (xb : Nat), Lb = #[u0, u1, u2, u3, u4, u5] ∧ A = ({ tmps := #[s0, s1, .int .i64 (r : Int), .int .i64 (s : Int), .pointer (some ⟨b4, 0, none⟩), s5, s6, s7, s8, s9, s10, s11, .pointer (some ⟨b12, 0, none⟩), s13, s14, s15, s16, s17, s18, s19, s20, s21, s22, s23, s24, s25, s26, s27, s28, s29, s30, s31, s32, s33, (bif u0 then .agg #[.int .i64 (W : Int), .int .i64 (H : Int), .slice (some ⟨g, po, none⟩) n c] else s34), (bif u1 then .int .i64 (r : Int) else s35), (bif u2 then .agg #[.int .i64 (W : Int), .int .i64 (H : Int), .slice (some ⟨g2, 0, none⟩) n c2] else s36), (bif u3 then .int .i64 (s : Int) else s37), (bif u4 then .func (.func 74) #[] #[.pointer (some ⟨xb + 1, 0, none⟩), .pointer (some ⟨xb, 0, none⟩)] else s38), (bif u5 then .func (.func 72) #[] #[.pointer (some ⟨xb + 2, 0, none⟩), .pointer (some ⟨xb + 4, 0, none⟩), .pointer (some ⟨xb + 3, 0, none⟩)] else s39), s40, s41, s42, s43, s44, s45, s46, s47, s48, s49, s50, s51, s52, s53, s54, s55, s56, s57, s58, s59, s60, s61, s62, s63, s64, s65, s66, s67], defers := [] } : Act) ∧ Below V.heap.size V W_ ∧ (u4 = true → u5 = false → ∃ X, Below V.heap.size V X ∧ X.heap.size = xb ∧ W_ = sw X) ∧ (u5 = true → ∃ X, Below V.heap.size V X ∧ X.heap.size = xb ∧ W_ = zw X) ∧ (u4 = true → u2 = true ∧ u3 = true) ∧ (u5 = true → u0 = true ∧ u1 = true ∧ u2 = true ∧ u3 = true ∧ u4 = true)) (by kernel_rfl) (by kernel_rfl) ?h0 ?hstep ?hend
  case h0 =>
    exact ⟨false, false, false, false, false, false, 0, rfl, rfl, Below.drew (Below.refl _ _), (fun h => nomatch h), (fun h => nomatch h), (fun h => nomatch h), (fun h => nomatch h)⟩
  case hstep =>
    rintro Lb A W_ ⟨u0, u1, u2, u3, u4, u5, xb, rfl, rfl, kB, kT, kU, c4, kF⟩
    refine ⟨?_, ?_, ?_, ?_, ?_, ?_, trivial⟩
    · intro h0 hd K hK
      have z : u0 = false := h0
      have z5_ : u5 = false := by
        cases hu : u5 with
        | false => rfl
        | true => exact nomatch z.symm.trans ((kF hu).1)
      have H_kB := hide kB
      have H_kT := hide kT
      have H_kU := hide kU
      have H_c4 := hide c4
      have H_kF := hide kF
      clear kB kT kU c4 kF
      subst z5_
      subst z
      clear h0 hd
      rw [if_pos (by rfl)]
      have cc0 := keep1 (unhide H_kB) ((unhide H4).cell (m := 0) rfl)
      have cc1 := keep1 (unhide H_kB) ((unhide H4).cell (m := 1) rfl)
      have cc2 := keep1 (unhide H_kB) ((unhide H4).cell (m := 2) rfl)
      (unfold Oper.wpIn; refine ⟨fun _ _ => trivial, ?_⟩; go_simp)
      exact unhide hK _ _ ⟨true, u1, u2, u3, u4, false, xb, rfl, rfl, unhide H_kB, unhide H_kT, (fun h => nomatch h), unhide H_c4, (fun h => nomatch h)⟩
    · intro h0 hd K hK
      have z : u1 = false := h0
      have z5_ : u5 = false := by
        cases hu : u5 with
        | false => rfl
        | true => exact nomatch z.symm.trans ((kF hu).2.1)
      have H_kB := hide kB
      have H_kT := hide kT
      have H_kU := hide kU
      have H_c4 := hide c4
      have H_kF := hide kF
      clear kB kT kU c4 kF
      subst z5_
      subst z
      clear h0 hd
      rw [if_pos (by rfl)]
      (unfold Oper.wpIn; refine ⟨fun _ _ => trivial, ?_⟩; go_simp)
      exact unhide hK _ _ ⟨u0, true, u2, u3, u4, false, xb, rfl, rfl, unhide H_kB, unhide H_kT, (fun h => nomatch h), unhide H_c4, (fun h => nomatch h)⟩
    · intro h0 hd K hK
      have z : u2 = false := h0
      have z5_ : u5 = false := by
        cases hu : u5 with
        | false => rfl
        | true => exact nomatch z.symm.trans ((kF hu).2.2.1)
      have z4_ : u4 = false := by
        cases hu : u4 with
        | false => rfl
        | true => exact nomatch z.symm.trans ((c4 hu).1)
      have H_kB := hide kB
      have H_kT := hide kT
      have H_kU := hide kU
      have H_c4 := hide c4
      have H_kF := hide kF
      clear kB kT kU c4 kF
      subst z5_
      subst z4_
      subst z
      clear h0 hd
      rw [if_pos (by rfl)]
      have cc0 := keep1 (unhide H_kB) ((unhide H12).cell (m := 0) rfl)
      have cc1 := keep1 (unhide H_kB) ((unhide H12).cell (m := 1) rfl)
      have cc2 := keep1 (unhide H_kB) ((unhide H12).cell (m := 2) rfl)
      (unfold Oper.wpIn; refine ⟨fun _ _ => trivial, ?_⟩; go_simp)
      exact unhide hK _ _ ⟨u0, u1, true, u3, false, false, xb, rfl, rfl, unhide H_kB, (fun h => nomatch h), (fun h => nomatch h), (fun h => nomatch h), (fun h => nomatch h)⟩
    · intro h0 hd K hK
      have z : u3 = false := h0
      have z5_ : u5 = false := by
        cases hu : u5 with
        | false => rfl
        | true => exact nomatch z.symm.trans ((kF hu).2.2.2.1)
      have z4_ : u4 = false := by
        cases hu : u4 with
        | false => rfl
        | true => exact nomatch z.symm.trans ((c4 hu).2)
      have H_kB := hide kB
      have H_kT := hide kT
      have H_kU := hide kU
      have H_c4 := hide c4
      have H_kF := hide kF
      clear kB kT kU c4 kF
      subst z5_
      subst z4_
      subst z
      clear h0 hd
      rw [if_pos (by rfl)]
      (unfold Oper.wpIn; refine ⟨fun _ _ => trivial, ?_⟩; go_simp)
      exact unhide hK _ _ ⟨u0, u1, u2, true, false, false, xb, rfl, rfl, unhide H_kB, (fun h => nomatch h), (fun h => nomatch h), (fun h => nomatch h), (fun h => nomatch h)⟩
    · intro h0 hd K hK
      have z : u4 = false := h0
      have z5_ : u5 = false := by
        cases hu : u5 with
        | false => rfl
        | true => exact nomatch z.symm.trans ((kF hu).2.2.2.2)
      have zd : u2 = true ∧ u3 = true := by
        simp [Region.binds] at hd
        simp [hd]
      have H_kB := hide kB
      have H_kT := hide kT
      have H_kU := hide kU
      have H_c4 := hide c4
      have H_kF := hide kF
      clear kB kT kU c4 kF
      obtain ⟨rfl, rfl⟩ := zd
      subst z5_
      subst z
      clear h0 hd
      rw [if_pos (by rfl)]
      (unfold Oper.wpIn; refine ⟨fun _ _ => trivial, ?_⟩; go_simp)
      refine ⟨by first | rfl | trivial | (intro h; cases h), (callsIn_wide.2 (unhide HT4 _ (unhide H_kB))).mono ?_⟩
      rintro e w8 ⟨rfl, hb8, hq8⟩
      exact unhide hK _ _ ⟨u0, u1, true, true, true, false, W_.heap.size, rfl, rfl, (bc (unhide H_kB) hb8), (fun _ _ => ⟨W_, unhide H_kB, rfl, hq8⟩), (fun h => nomatch h), (fun _ => ⟨rfl, rfl⟩), (fun h => nomatch h)⟩
    · intro h0 hd K hK
      have z : u5 = false := h0
      have zd : u0 = true ∧ u1 = true ∧ u4 = true ∧ u2 = true ∧ u3 = true := by
        simp [Region.binds] at hd
        simp_all
      have H_kB := hide kB
      have H_kT := hide kT
      have H_kU := hide kU
      have H_c4 := hide c4
      have H_kF := hide kF
      clear kB kT kU c4 kF
      obtain ⟨rfl, rfl, rfl, rfl, rfl⟩ := zd
      subst z
      clear h0 hd
      rw [if_pos (by rfl)]
      obtain ⟨X, hX, rfl, rfl⟩ := unhide H_kT rfl rfl
      (unfold Oper.wpIn; refine ⟨fun _ _ => trivial, ?_⟩; go_simp)
      refine ⟨by first | rfl | trivial | (intro h; cases h), (callsIn_wide.2 (unhide HT5 X hX)).mono ?_⟩
      rintro e w8 ⟨rfl, hb8, hq8⟩
      exact unhide hK _ _ ⟨true, true, true, true, true, true, X.heap.size, rfl, rfl, (bc hX hb8), (fun _ h => nomatch h), (fun _ => ⟨X, hX, rfl, hq8⟩), (fun _ => ⟨rfl, rfl⟩), (fun _ => ⟨rfl, rfl, rfl, rfl, rfl⟩)⟩
  case hend =>
    rintro Lb A W_ ⟨u0, u1, u2, u3, u4, u5, xb, rfl, rfl, kB, kT, kU, c4, kF⟩ hL
    have hl : u0 = true ∧ u1 = true ∧ u2 = true ∧ u3 = true ∧ u4 = true ∧ u5 = true := by
      have h2 := congrArg Array.toList hL
      simpa [List.replicate] using h2
    obtain ⟨rfl, rfl, rfl, rfl, rfl, rfl⟩ := hl
    obtain ⟨X, hX, rfl, rfl⟩ := kU rfl
    exact unhide HQ X hX
/-- the iterator that the program makes, and the world that it lies in -/
theorem zg5 {s0 s1 s5 s6 s7 s8 s9 s10 s11 s13 s14 s15 s16 s17 s18 s19 s20 s21 s22 s23 s24 s25 s26 s27 s28 s29 s30 s31 s32 s33 s34 s35 s36 s37 s38 s39 s40 s41 s42 s43 s44 s45 s46 s47 s48 s49 s50 s51 s52 s53 s54 s55 s56 s57 s58 s59 s60 s61 s62 s63 s64 s65 s66 s67 : Value} {b4 b12 W H n c g po g2 c2 : Nat} {r s : Nat} {V : World} {K_ : Act → World → Prop}
    (H4 : Hid (vb V b4 25 [.int .i64 (W : Int), .int .i64 (H : Int), .slice (some ⟨g, po, none⟩) n c])) (H12 : Hid (vb V b12 25 [.int .i64 (W : Int), .int .i64 (H : Int), .slice (some ⟨g2, 0, none⟩) n c2]))
    (hQ : ∀ (X : World), Below V.heap.size V X → K_ { tmps := #[s0, s1, .int .i64 (r : Int), .int .i64 (s : Int), .pointer (some ⟨b4, 0, none⟩), s5, s6, s7, s8, s9, s10, s11, .pointer (some ⟨b12, 0, none⟩), s13, s14, s15, s16, s17, s18, s19, s20, s21, s22, s23, s24, s25, s26, s27, s28, s29, s30, s31, s32, s33, .agg #[.int .i64 (W : Int), .int .i64 (H : Int), .slice (some ⟨g, po, none⟩) n c], .int .i64 (r : Int), .agg #[.int .i64 (W : Int), .int .i64 (H : Int), .slice (some ⟨g2, 0, none⟩) n c2], .int .i64 (s : Int), .func (.func 74) #[] #[.pointer (some ⟨X.heap.size + 1, 0, none⟩), .pointer (some ⟨X.heap.size, 0, none⟩)], .func (.func 72) #[] #[.pointer (some ⟨X.heap.size + 2, 0, none⟩), .pointer (some ⟨X.heap.size + 4, 0, none⟩), .pointer (some ⟨X.heap.size + 3, 0, none⟩)], s40, s41, s42, s43, s44, s45, s46, s47, s48, s49, s50, s51, s52, s53, s54, s55, s56, s57, s58, s59, s60, s61, s62, s63, s64, s65, s66, s67], defers := [] } (((((X.alloc (.cells #[.int .i64 (W : Int), .int .i64 (H : Int), .slice (some ⟨g2, 0, none⟩) n c2] 25)).alloc (.cells #[.int .i64 (s : Int)] 3)).alloc (.cells #[.int .i64 (W : Int), .int .i64 (H : Int), .slice (some ⟨g, po, none⟩) n c] 25)).alloc (.cells #[.int .i64 (r : Int)] 3)).alloc (.cells #[.func (.func 74) #[] #[.pointer (some ⟨X.heap.size + 1, 0, none⟩), .pointer (some ⟨X.heap.size, 0, none⟩)]] 69))) :
    Go.Code.wpIn Fence.wide 0 Try.prog (reg9 5) (Only K_) { tmps := #[s0, s1, .int .i64 (r : Int), .int .i64 (s : Int), .pointer (some ⟨b4, 0, none⟩), s5, s6, s7, s8, s9, s10, s11, .pointer (some ⟨b12, 0, none⟩), s13, s14, s15, s16, s17, s18, s19, s20, s21, s22, s23, s24, s25, s26, s27, s28, s29, s30, s31, s32, s33, s34, s35, s36, s37, s38, s39, s40, s41, s42, s43, s44, s45, s46, s47, s48, s49, s50, s51, s52, s53, s54, s55, s56, s57, s58, s59, s60, s61, s62, s63, s64, s65, s66, s67], defers := [] } V := by
  refine zg5' (sw := fun X => ((X.alloc (.cells #[.int .i64 (W : Int), .int .i64 (H : Int), .slice (some ⟨g2, 0, none⟩) n c2] 25)).alloc (.cells #[.int .i64 (s : Int)] 3))) (zw := fun X => ((((X.alloc (.cells #[.int .i64 (W : Int), .int .i64 (H : Int), .slice (some ⟨g2, 0, none⟩) n c2] 25)).alloc (.cells #[.int .i64 (s : Int)] 3)).alloc (.cells #[.int .i64 (W : Int), .int .i64 (H : Int), .slice (some ⟨g, po, none⟩) n c] 25)).alloc (.cells #[.int .i64 (r : Int)] 3)).alloc (.cells #[.func (.func 74) #[] #[.pointer (some ⟨X.heap.size + 1, 0, none⟩), .pointer (some ⟨X.heap.size, 0, none⟩)]] 69)) H4 H12 (hide fun X hX => ?_) (hide fun X hX => ?_) hQ
  · refine (stdM W H n c2 g2 0 (s : Int) X).mono ?_
    rintro e w' ⟨rfl, rfl⟩
    exact ⟨rfl, ba (ba (Below.refl _ _) _) _, rfl⟩
  · refine (takM W H n c g po 74 _ (r : Int) _).mono ?_
    rintro e w' ⟨rfl, rfl⟩
    refine ⟨?_, ba (ba (ba (ba (ba (Below.refl _ _) _) _) _) _) _, rfl⟩
    simp only [World.size_alloc]
end Go.Proofs.Ytjhldjojkaphkaa

namespace Go.Proofs.Ytjhldjojkaphkaa
open Go.ChangeShapes Go.WideShapes Go.ChangeAt Go.RowKit Go.Shelf
set_option linter.unusedVariables false
set_option linter.unusedSimpArgs false

theorem mv65 : (Try.prog.info? 65).map (fun i => (i.zero, i.size, i.bytes)) = some (some (.agg #[.bool false, .int .i64 0, .int .i64 0, .int .i64 0]), 4, 32) := by kernel_rfl
/-- a move: fast or not, and where to -/
def mvC (f : Bool) (x y z : Int) : List Value := [.bool f, .int .i64 x, .int .i64 y, .int .i64 z]
/-- to a place and up again -/
def mv4 (x oy y z : Int) : List Value := mvC true x oy 24 ++ mvC true x y 24 ++ mvC false x y z ++ mvC true x y 24
def zoy (ps : List (Nat × Nat × Int)) : Nat → Int
  | 0 => 0
  | k + 1 => ((ps.getD k (0, 0, 0)).2.1 : Int)
def zcs (ps : List (Nat × Nat × Int)) : Nat → List Value
  | 0 => mvC true 0 0 24
  | k + 1 => zcs ps k ++ mv4 ((ps.getD k (0, 0, 0)).1 : Int) (zoy ps k) ((ps.getD k (0, 0, 0)).2.1 : Int) (ps.getD k (0, 0, 0)).2.2
theorem getD_of {ps : List (Nat × Nat × Int)} {k : Nat} {p : Nat × Nat × Int} (h : ps[k]? = some p) : ps.getD k (0, 0, 0) = p := by simp [h]
theorem zcs_succ {ps : List (Nat × Nat × Int)} {k x y : Nat} {z : Int} (h : ps[k]? = some (x, y, z)) : zcs ps (k + 1) = zcs ps k ++ mv4 (x : Int) (zoy ps k) (y : Int) z ∧ zoy ps (k + 1) = (y : Int) := by
  constructor
  · rw [zcs, getD_of h]
  · rw [zoy, getD_of h]
theorem zcs_len (ps : List (Nat × Nat × Int)) : ∀ k, (zcs ps k).length = (1 + 4 * k) * 4
  | 0 => rfl
  | k + 1 => by
    rw [zcs, List.length_append, zcs_len ps k]
    simp [mv4, mvC]
    omega
theorem mv4_one (x oy y z : Int) : ∀ u ∈ mv4 x oy y z, u.oneCell' = true := by
  intro u hu
  simp [mv4, mvC] at hu
  rcases hu with h | h | h | h | h | h | h | h | h | h | h | h | h | h | h | h <;> (subst h; rfl)
/-- a row of moves -/
def Mvs (w : World) (B : Nat) (v : Value) (m : Nat) (cs : List Value) : Prop := w.ownsRow B 65 4 v m cs
theorem Mvs.kept {w w' : World} {B m : Nat} {v : Value} {cs : List Value} (h : Mvs w B v m cs) (hb : ∀ g, v.ownBlock = some g → w'.heap[g]? = w.heap[g]?) : Mvs w' B v m cs := by
  refine ⟨h.1, ?_⟩
  rcases h.2 with h1 | ⟨g, cap, cur, hv, hB, hh, r⟩
  · exact .inl h1
  · exact .inr ⟨g, cap, cur, hv, hB, (hb g (by rw [hv]; rfl)).trans hh, r⟩
theorem Mvs.lt {w : World} {B m : Nat} {v : Value} {cs : List Value} (h : Mvs w B v m cs) : ∀ g, v.ownBlock = some g → B ≤ g ∧ g < w.heap.size := by
  intro g hg
  rcases h.2 with ⟨h1, _⟩ | ⟨q, cap, cur, hv, hB, hh, r⟩
  · rw [h1] at hg; cases hg
  · rw [hv] at hg
    simp only [Value.ownBlock, Option.some.injEq] at hg
    subst hg
    exact ⟨hB, (Array.getElem?_eq_some_iff.1 hh).1⟩
/-- between two places -/
structure Zl (w : World) (B b10 b11 s8 s9 : Nat) (S : Nat → Prop) (ps : List (Nat × Nat × Int)) (O : Nat → Prop) (k : Nat) (X : World) : Prop where
  far : ∀ b, O b → B ≤ b
  big : B ≤ X.heap.size
  row : ∃ v, vb X b10 29 [v] ∧ Mvs X (w.heap.size + 4) v (1 + 4 * k) (zcs ps k) ∧ (∀ g, v.ownBlock = some g → ¬ O g ∧ ¬ S g)
  v11 : vb X b11 3 [.int .i64 (zoy ps k)]
  v8 : vb X s8 29 [.slice none 0 0]
  v9 : vb X s9 3 [.int .i64 0]
  few : 1 + 4 * k ≤ 2000
  bel : Below w.heap.size w X
theorem Zl.on {w : World} {B b10 b11 s8 s9 : Nat} {S : Nat → Prop} {ps : List (Nat × Nat × Int)} {O O' : Nat → Prop} {k : Nat} {A C : World} (h : Zl w B b10 b11 s8 s9 S ps O k A) (hB : w.heap.size ≤ B) (h10 : b10 < B) (h11 : b11 < B) (h8 : s8 < B) (h9 : s9 < B) (hg : Grw O A C) (hO : ∀ b, O' b → O b ∨ A.heap.size ≤ b) : Zl w B b10 b11 s8 s9 S ps O' k C := by
  obtain ⟨v, hv, hr, hn⟩ := h.row
  have hbel : Below B A C := hg.bel h.big h.far
  exact ⟨fun b hb => (hO b hb).elim (h.far b) (fun h9 => by have := h.big; omega), Nat.le_trans h.big hg.size, ⟨v, hv.below hbel h10, hr.kept (fun g hgg => hg.block g (hr.lt g hgg).2 (hn g hgg).1), fun g hgg => ⟨fun ho => (hO g ho).elim (hn g hgg).1 (fun h9 => by have := (hr.lt g hgg).2; omega), (hn g hgg).2⟩⟩, h.v11.below hbel h11, h.v8.below hbel h8, h.v9.below hbel h9, h.few, h.bel.trans (hbel.mono hB)⟩
end Go.Proofs.Ytjhldjojkaphkaa

namespace Go.Proofs.Ytjhldjojkaphkaa
set_option linter.unusedVariables false
set_option linter.unusedSimpArgs false

/-- what the model's run has: the tops that are left, and the places in their order -/
structure Zs where
  T : List Int
  ps : List (Nat × Nat × Int)
def zst (W H r : Nat) (s : Zs) (p : Nat × Nat × Int) : Zs :=
  if hi s.T (cols W H r p.1 p.2.1) ≤ p.2.2 then s else if 2000 < 1 + 4 * s.ps.length then s else ⟨mins s.T (cols W H r p.1 p.2.1) p.2.2, s.ps ++ [p]⟩
def zstO (W H r : Nat) (s : Zs) : Option (Nat × Nat × Int) → Zs
  | none => s
  | some p => zst W H r s p
/-- behind the first c candidates -/
def zrun (W H r s : Nat) (A L : List Int) : Nat → Zs
  | 0 => ⟨A, []⟩
  | c + 1 => zstO W H r (zrun W H r s A L c) (cnd W H s L c)
theorem take1_T (z : Int) (s : Ml) (i : Nat) : (take1 z s i).T = s.T.set i (min (tp s.T i) z) := by
  unfold take1
  split
  · rename_i h
    show s.T.set i z = _
    rw [Int.min_eq_right (by omega)]
  · rename_i h
    rw [Int.min_eq_left (by omega)]
    by_cases hi : i < s.T.length
    · have := tp_at hi
      apply List.ext_getElem?
      intro j
      rw [List.getElem?_set]
      split
      · rename_i e
        subst e
        exact this
      · rfl
    · rw [List.set_eq_of_length_le (by omega)]
theorem takeC_T (z : Int) : ∀ (cs : List Nat) (s : Ml), (takeC z s cs).T = mins s.T cs z
  | [], s => rfl
  | c :: cs, s => by
    show (takeC z (take1 z s c) cs).T = _
    rw [takeC_T z cs (take1 z s c), take1_T]
    rfl
theorem zrun_fold (W H r s : Nat) (A L : List Int) : ∀ c, zrun W H r s A L c = (lsq (cnd W H s L) c).foldl (zst W H r) ⟨A, []⟩
  | 0 => rfl
  | c + 1 => by
    rw [zrun, zrun_fold W H r s A L c]
    unfold lsq
    rw [List.range_succ, List.filterMap_append, List.foldl_append]
    cases h : cnd W H s L c <;> simp [h, zstO]
theorem lsq_succ_none {α : Type} {f : Nat → Option α} {c : Nat} (h : f c = none) : lsq f (c + 1) = lsq f c := by unfold lsq; rw [List.range_succ, List.filterMap_append]; simp [h]
theorem lsq_succ_some {α : Type} {f : Nat → Option α} {c : Nat} {p : α} (h : f c = some p) : lsq f (c + 1) = lsq f c ++ [p] := by unfold lsq; rw [List.range_succ, List.filterMap_append]; simp [h]
theorem zst_run (W H r : Nat) (A : List Int) (ps : List (Nat × Nat × Int)) : ∀ c, c ≤ ps.length →
    (((ps.take c).foldl (zst W H r) ⟨A, []⟩).ps = lsq (tkd W H r ⟨A, 0, 0, 0⟩ ps) c ∧ ((ps.take c).foldl (zst W H r) ⟨A, []⟩).T = (lfS W H r ⟨A, 0, 0, 0⟩ ps c).T) ∨
    (2000 < 1 + 4 * ((ps.take c).foldl (zst W H r) ⟨A, []⟩).ps.length ∧ ((ps.take c).foldl (zst W H r) ⟨A, []⟩).ps.length ≤ (lsq (tkd W H r ⟨A, 0, 0, 0⟩ ps) c).length)
  | 0, _ => .inl ⟨rfl, rfl⟩
  | c + 1, hc => by
    have hp : ps[c]? = some ps[c] := List.getElem?_eq_getElem (by omega)
    have hs : (ps.take (c + 1)).foldl (zst W H r) ⟨A, []⟩ = zst W H r ((ps.take c).foldl (zst W H r) ⟨A, []⟩) ps[c] := by
      rw [List.take_add_one, hp, List.foldl_append]
      rfl
    have hle : (lsq (tkd W H r ⟨A, 0, 0, 0⟩ ps) c).length ≤ (lsq (tkd W H r ⟨A, 0, 0, 0⟩ ps) (c + 1)).length := by
      cases h : tkd W H r ⟨A, 0, 0, 0⟩ ps c with
      | none => rw [lsq_succ_none h]; exact Nat.le_refl _
      | some p => rw [lsq_succ_some h]; simp
    have ih := zst_run W H r A ps c (by omega)
    rw [hs]
    generalize (ps.take c).foldl (zst W H r) ⟨A, []⟩ = st at *
    generalize ps[c] = p at *
    rcases ih with ⟨h1, h2⟩ | ⟨h1, h2⟩
    · by_cases hb : tkb W H r (lfS W H r ⟨A, 0, 0, 0⟩ ps c) p = true
      · obtain ⟨e1, e2⟩ := tkd_yes hp hb
        have hb' : ¬ hi st.T (cols W H r p.1 p.2.1) ≤ p.2.2 := by
          unfold tkb at hb
          rw [h2]
          simpa using hb
        unfold zst
        rw [if_neg hb']
        by_cases ho : 2000 < 1 + 4 * st.ps.length
        · rw [if_pos ho]
          exact .inr ⟨ho, by rw [h1]; exact hle⟩
        · rw [if_neg ho]
          left
          refine ⟨?_, ?_⟩
          · show st.ps ++ [p] = _
            rw [lsq_succ_some e1, h1]
          · show mins _ _ _ = _
            rw [e2, takeC_T, h2]
      · have hb2 : tkb W H r (lfS W H r ⟨A, 0, 0, 0⟩ ps c) p = false := Bool.eq_false_iff.2 hb
        obtain ⟨e1, e2⟩ := tkd_no hp hb2
        have hb' : hi st.T (cols W H r p.1 p.2.1) ≤ p.2.2 := by
          unfold tkb at hb2
          rw [h2]
          simpa using hb2
        unfold zst
        rw [if_pos hb']
        exact .inl ⟨by rw [lsq_succ_none e1]; exact h1, by rw [e2]; exact h2⟩
    · have : zst W H r st p = st := by
        unfold zst
        by_cases h9 : hi st.T (cols W H r p.1 p.2.1) ≤ p.2.2
        · rw [if_pos h9]
        · rw [if_neg h9, if_pos h1]
      rw [this]
      exact .inr ⟨h1, Nat.le_trans h2 hle⟩
theorem zrun_end (W H r s : Nat) (A L : List Int) : (1 + 4 * (zzL W H r s A L).length ≤ 2000 ∧ (zrun W H r s A L (cnC W H s)).ps = zzL W H r s A L) ∨ (2000 < 1 + 4 * (zzL W H r s A L).length ∧ 2000 < 1 + 4 * (zrun W H r s A L (cnC W H s)).ps.length) := by
  have h := zst_run W H r A (plcs W H s L) (plcs W H s L).length (Nat.le_refl _)
  rw [List.take_length] at h
  rw [zrun_fold]
  rw [show lsq (cnd W H s L) (cnC W H s) = plcs W H s L from rfl]
  unfold zzL
  generalize (plcs W H s L).foldl (zst W H r) ⟨A, []⟩ = st at *
  rcases h with ⟨h1, _⟩ | ⟨h1, h2⟩
  · by_cases ho : 1 + 4 * (lsq (tkd W H r ⟨A, 0, 0, 0⟩ (plcs W H s L)) (plcs W H s L).length).length ≤ 2000
    · exact .inl ⟨ho, h1⟩
    · exact .inr ⟨by omega, by rw [h1]; omega⟩
  · exact .inr ⟨by omega, h1⟩
theorem zoy_pre (ps qs : List (Nat × Nat × Int)) : ∀ k, k ≤ ps.length → zoy (ps ++ qs) k = zoy ps k
  | 0, _ => rfl
  | k + 1, hk => by
    simp only [zoy]
    rw [List.getD_eq_getElem?_getD, List.getD_eq_getElem?_getD, List.getElem?_append_left (by omega)]
theorem zcs_pre (ps qs : List (Nat × Nat × Int)) : ∀ k, k ≤ ps.length → zcs (ps ++ qs) k = zcs ps k
  | 0, _ => rfl
  | k + 1, hk => by
    simp only [zcs]
    rw [zcs_pre ps qs k (by omega), zoy_pre ps qs k (by omega), List.getD_eq_getElem?_getD, List.getD_eq_getElem?_getD, List.getElem?_append_left (by omega)]
theorem zcs_snoc (ps : List (Nat × Nat × Int)) (x y : Nat) (z : Int) : zcs (ps ++ [(x, y, z)]) (ps ++ [(x, y, z)]).length = zcs ps ps.length ++ mv4 (x : Int) (zoy ps ps.length) (y : Int) z ∧ zoy (ps ++ [(x, y, z)]) (ps ++ [(x, y, z)]).length = (y : Int) := by
  rw [List.length_append]
  show zcs _ (ps.length + 1) = _ ∧ zoy _ (ps.length + 1) = _
  have h : (ps ++ [(x, y, z)])[ps.length]? = some (x, y, z) := by simp
  obtain ⟨h1, h2⟩ := zcs_succ h
  refine ⟨?_, h2⟩
  rw [h1, zcs_pre ps _ _ (Nat.le_refl _), zoy_pre ps _ _ (Nat.le_refl _)]
theorem mins_keep {n : Nat} {T : List Int} {cs : List Nat} {z : Int} (hz : 0 ≤ z) (hl : T.length = n) (hT : ∀ i, 0 ≤ tp T i ∧ tp T i ≤ 24) : (mins T cs z).length = n ∧ ∀ i, 0 ≤ tp (mins T cs z) i ∧ tp (mins T cs z) i ≤ 24 := by
  refine ⟨by rw [mins_len, hl], ?_⟩
  clear hl
  induction cs generalizing T with
  | nil => exact hT
  | cons c cs ih =>
    refine ih (T := T.set c (min (tp T c) z)) ?_
    intro i
    by_cases hc : c < T.length
    · rw [tp_set hc]
      split
      · have := hT c; omega
      · exact hT i
    · rw [List.set_eq_of_length_le (by omega)]; exact hT i
theorem zst_ok {W H r n : Nat} {s : Zs} {p : Nat × Nat × Int} (hz : 0 ≤ p.2.2) (hl : s.T.length = n ∧ ∀ i, 0 ≤ tp s.T i ∧ tp s.T i ≤ 24) : (zst W H r s p).T.length = n ∧ ∀ i, 0 ≤ tp (zst W H r s p).T i ∧ tp (zst W H r s p).T i ≤ 24 := by
  unfold zst
  split
  · exact hl
  · split
    · exact hl
    · exact mins_keep hz hl.1 hl.2
theorem zst_few {W H r : Nat} {s : Zs} {p : Nat × Nat × Int} (h : 1 + 4 * s.ps.length ≤ 2004) : 1 + 4 * (zst W H r s p).ps.length ≤ 2004 := by
  unfold zst
  split
  · exact h
  · split
    · exact h
    · simp; omega
end Go.Proofs.Ytjhldjojkaphkaa

namespace Go.Proofs.Ytjhldjojkaphkaa
open Go.ChangeShapes Go.WideShapes Go.ChangeAt Go.RowKit
set_option linter.unusedVariables false
set_option linter.unusedSimpArgs false

/-- a move -/
structure Mve where
  f : Bool
  x : Int
  y : Int
  z : Int
def flat4 : List Mve → List Value
  | [] => []
  | m :: ms => .bool m.f :: .int .i64 m.x :: .int .i64 m.y :: .int .i64 m.z :: flat4 ms
theorem flat4_len (ms : List Mve) : (flat4 ms).length = ms.length * 4 := by
  induction ms with
  | nil => rfl
  | cons l ms ih => simp only [flat4, List.length_cons, ih]; omega
theorem flat4_append (a b : List Mve) : flat4 (a ++ b) = flat4 a ++ flat4 b := by
  induction a with
  | nil => rfl
  | cons l a ih => simp only [List.cons_append, flat4, ih]
theorem flat4_at {ms : List Mve} {i : Nat} {l : Mve} (h : ms[i]? = some l) :
    (flat4 ms)[i * 4]? = some (.bool l.f) ∧ (flat4 ms)[i * 4 + 1]? = some (.int .i64 l.x) ∧ (flat4 ms)[i * 4 + 2]? = some (.int .i64 l.y) ∧ (flat4 ms)[i * 4 + 3]? = some (.int .i64 l.z) := by
  induction ms generalizing i with
  | nil => cases h
  | cons x ms ih =>
    cases i with
    | zero =>
      simp only [List.getElem?_cons_zero, Option.some.injEq] at h
      subst h
      exact ⟨rfl, rfl, rfl, rfl⟩
    | succ i =>
      have := ih (i := i) (by simpa using h)
      rw [show (i + 1) * 4 = i * 4 + 4 by omega]
      exact this
theorem flat4_set (ms : List Mve) (i : Nat) (l : Mve) (h : i < ms.length) :
    flat4 (ms.set i l) = ((((flat4 ms).set (i * 4) (.bool l.f)).set (i * 4 + 1) (.int .i64 l.x)).set (i * 4 + 2) (.int .i64 l.y)).set (i * 4 + 3) (.int .i64 l.z) := by
  induction ms generalizing i with
  | nil => simp at h
  | cons x ms ih =>
    cases i with
    | zero => rfl
    | succ i =>
      have e := ih i (by simpa using h)
      rw [show (i + 1) * 4 = i * 4 + 4 by omega]
      simp only [List.set_cons_succ, flat4, e]
def mvs4 (x oy y z : Int) : List Mve := [⟨true, x, oy, 24⟩, ⟨true, x, y, 24⟩, ⟨false, x, y, z⟩, ⟨true, x, y, 24⟩]
def zmv (ps : List (Nat × Nat × Int)) : Nat → List Mve
  | 0 => [⟨true, 0, 0, 24⟩]
  | k + 1 => zmv ps k ++ mvs4 ((ps.getD k (0, 0, 0)).1 : Int) (zoy ps k) ((ps.getD k (0, 0, 0)).2.1 : Int) (ps.getD k (0, 0, 0)).2.2
theorem zcs_flat (ps : List (Nat × Nat × Int)) : ∀ k, zcs ps k = flat4 (zmv ps k)
  | 0 => rfl
  | k + 1 => by
    rw [zcs, zmv, flat4_append, zcs_flat ps k]
    rfl
theorem zmv_len (ps : List (Nat × Nat × Int)) : ∀ k, (zmv ps k).length = 1 + 4 * k
  | 0 => rfl
  | k + 1 => by rw [zmv, List.length_append, zmv_len ps k]; simp [mvs4]; omega
/-- a row of moves of one's own -/
def Mrow (w : World) (B : Nat) (v : Value) (n : Nat) (ms : List Mve) : Prop := Mvs w B v n (flat4 ms)
theorem Mrow.len {w : World} {B n : Nat} {v : Value} {ms : List Mve} (h : Mrow w B v n ms) : ms.length = n := by
  have := h.1
  rw [flat4_len] at this
  omega
theorem Mvs.cellV {w : World} {B g n cap : Nat} {cs : List Value} (h : Mvs w B (.slice (some ⟨g, 0, none⟩) n cap) n cs) {j : Nat} {x : Value} (hj : cs[j]? = some x) : w.cell? ⟨g, j, none⟩ = some x := by
  rcases h.2 with ⟨h1, _⟩ | ⟨g', cap', cur, hv', hB, hh, hn, hx, hs, ht⟩
  · cases h1
  · cases hv'
    have h1 : (cur.toList.take (n * 4))[j]? = some x := by rw [ht]; exact hj
    simp only [World.cell?]
    rw [hh]
    rw [List.getElem?_take] at h1
    split at h1
    · simpa using h1
    · cases h1
theorem Mrow.at {w : World} {B g n cap : Nat} {ms : List Mve} (h : Mrow w B (.slice (some ⟨g, 0, none⟩) n cap) n ms) {i : Nat} {l : Mve} (hi : ms[i]? = some l) :
    w.cell? ⟨g, i * 4, none⟩ = some (.bool l.f) ∧ w.cell? ⟨g, i * 4 + 1, none⟩ = some (.int .i64 l.x) ∧ w.cell? ⟨g, i * 4 + 2, none⟩ = some (.int .i64 l.y) ∧ w.cell? ⟨g, i * 4 + 3, none⟩ = some (.int .i64 l.z) := by
  obtain ⟨h0, h1, h2, h3⟩ := flat4_at hi
  exact ⟨Mvs.cellV h h0, Mvs.cellV h h1, Mvs.cellV h h2, Mvs.cellV h h3⟩
theorem Mvs.frz {w : World} {B g n cap : Nat} {cs : List Value} (h : Mvs w B (.slice (some ⟨g, 0, none⟩) n cap) n cs) (o : Nat) : w.frozen? ⟨g, o, none⟩ = false := by
  rcases h.2 with ⟨h1, h2⟩ | ⟨g', cap', cur, hv, hB, hh, r⟩
  · cases h1
  · cases hv
    simp only [World.frozen?]
    rw [hh]
    simp
theorem Mvs.set {w : World} {B g n cap : Nat} {cs : List Value} (h : Mvs w B (.slice (some ⟨g, 0, none⟩) n cap) n cs) (j : Nat) (x : Value) :
    Mvs (w.setCell ⟨g, j, none⟩ x) B (.slice (some ⟨g, 0, none⟩) n cap) n (cs.set j x) := by
  refine ⟨by have := h.1; simpa using this, ?_⟩
  rcases h.2 with ⟨h1, h2⟩ | ⟨g', cap', cur, hv, hB, hh, hn, hm, hs, ht⟩
  · cases h1
  · cases hv
    refine .inr ⟨g, cap, cur.setIfInBounds j x, rfl, hB, ?_, hn, hm, by simp [hs], ?_⟩
    · show (w.heap.modify g _)[g]? = _
      rw [Array.getElem?_modify, if_pos rfl, hh]
      simp
    · rw [Array.toList_setIfInBounds, List.take_set, ht]
theorem Mvs.bel {w w' : World} {B n : Nat} {v : Value} {cs : List Value} (h : Mvs w B v n cs) (hb : Below w.heap.size w w') : Mvs w' B v n cs := h.kept (fun g hg => hb.block g (h.lt g hg).2)
theorem Mrow.full {w : World} {B n : Nat} {v : Value} {ms : List Mve} (h : Mrow w B v n ms) (hn : n ≠ 0) : ∃ g cap, v = .slice (some ⟨g, 0, none⟩) n cap ∧ B ≤ g ∧ g < w.heap.size := by
  rcases h.2 with ⟨_, h1⟩ | ⟨g, cap, cur, hv, hB, hh, r⟩
  · exact absurd h1 hn
  · exact ⟨g, cap, hv, hB, (Array.getElem?_eq_some_iff.1 hh).1⟩
/-- what a mark writes -/
def mkM (k : Int) : Mve := ⟨k % 3 == 0, k + 1, k + 2, k + 3⟩
def mksM (k : Int) : Nat → List Mve
  | 0 => []
  | i + 1 => mksM k i ++ [mkM (k + 4 * (i : Int))]
theorem mksM_len (k : Int) (i : Nat) : (mksM k i).length = i := by
  induction i with
  | zero => rfl
  | succ i ih => simp [mksM, ih]
theorem mksM_at (k : Int) : ∀ (n i : Nat), i < n → (mksM k n)[i]? = some (mkM (k + 4 * (i : Int)))
  | 0, i, h => by omega
  | n + 1, i, h => by
    rw [mksM]
    by_cases hi : i < n
    · rw [List.getElem?_append_left (by rw [mksM_len]; exact hi)]
      exact mksM_at k n i hi
    · have : i = n := by omega
      subst this
      rw [List.getElem?_append_right (by rw [mksM_len]; exact Nat.le_refl _), mksM_len, Nat.sub_self]
      rfl
/-- all of a row is written over -/
def overM (ms : List Mve) (k : Int) (i : Nat) : List Mve := mksM k i ++ ms.drop i
theorem overM_len (ms : List Mve) (k : Int) {i : Nat} (h : i ≤ ms.length) : (overM ms k i).length = ms.length := by simp [overM, mksM_len]; omega
theorem overM_at {ms : List Mve} (k : Int) {i : Nat} {m : Mve} (h : ms[i]? = some m) : (overM ms k i)[i]? = some m := by
  unfold overM
  rw [List.getElem?_append_right (by rw [mksM_len]; exact Nat.le_refl _), mksM_len, Nat.sub_self, List.getElem?_drop, Nat.add_zero]
  exact h
theorem overM_step {ms : List Mve} (k : Int) {i : Nat} (h : i < ms.length) : (overM ms k i).set i (mkM (k + 4 * (i : Int))) = overM ms k (i + 1) := by
  unfold overM
  rw [List.set_append, if_neg (by rw [mksM_len]; omega), mksM_len, Nat.sub_self, mksM, List.append_assoc]
  congr 1
  rw [List.drop_eq_getElem_cons h]
  rfl
end Go.Proofs.Ytjhldjojkaphkaa

namespace Go.Proofs.Ytjhldjojkaphkaa
open Go.ChangeShapes Go.WideShapes Go.ChangeAt Go.RowKit
set_option linter.unusedVariables false
set_option linter.unusedSimpArgs false

/-- all that was there is as it was, but for one block -/
structure Mv (g : Nat) (w w' : World) : Prop where
  os : w'.os = w.os
  tape : w'.tape = w.tape
  output : w'.output = w.output
  size : w.heap.size ≤ w'.heap.size
  block : ∀ k, k < w.heap.size → k ≠ g → w'.heap[k]? = w.heap[k]?
theorem Mv.refl (g : Nat) (w : World) : Mv g w w := ⟨rfl, rfl, rfl, Nat.le_refl _, fun _ _ _ => rfl⟩
theorem Mv.trans {g : Nat} {a b c : World} (x : Mv g a b) (y : Mv g b c) : Mv g a c :=
  ⟨y.os.trans x.os, y.tape.trans x.tape, y.output.trans x.output, Nat.le_trans x.size y.size, fun k hk h1 => (y.block k (Nat.lt_of_lt_of_le hk x.size) h1).trans (x.block k hk h1)⟩
theorem Mv.of_bel {g : Nat} {w w' : World} (hb : Below w.heap.size w w') : Mv g w w' := ⟨hb.os, hb.tape, hb.output, hb.size, fun k hk _ => hb.block k hk⟩
theorem Mv.call {g : Nat} {w W w' : World} (x : Mv g w W) (hb : Below W.heap.size W w') : Mv g w w' := x.trans (Mv.of_bel hb)
theorem Mv.alloc {g : Nat} {w w' : World} (x : Mv g w w') (o : Obj) : Mv g w (w'.alloc o) := x.call (ba (Below.refl _ _) o)
theorem Mv.drew {g : Nat} {w w' : World} (x : Mv g w w') : Mv g w w'.drew := ⟨x.os, x.tape, x.output, x.size, x.block⟩
theorem Mv.dn {g : Nat} {w w' : World} (x : Mv g w w') (q : Nat) : Mv g w (w'.drewN q) := ⟨x.os, x.tape, x.output, x.size, x.block⟩
theorem Mv.set {g : Nat} {w w' : World} (x : Mv g w w') (o : Nat) (v : Value) : Mv g w (w'.setCell ⟨g, o, none⟩ v) :=
  x.trans ⟨rfl, rfl, rfl, by simp [World.setCell], fun k _ h1 => Below.heap_setCell _ _ _ _ h1⟩
/-- a store into a block that came later -/
theorem Mv.new {g T : Nat} {w w' : World} (x : Mv g w w') (hT : w.heap.size ≤ T) (o : Nat) (v : Value) : Mv g w (w'.setCell ⟨T, o, none⟩ v) :=
  ⟨x.os, x.tape, x.output, by simpa [World.setCell] using x.size, fun k hk h1 => (Below.heap_setCell _ _ _ _ (show k ≠ T by omega)).trans (x.block k hk h1)⟩
theorem Mv.cell {g : Nat} {w w' : World} (x : Mv g w w') {b o : Nat} {v : Value} (h1 : b ≠ g) (hc : w.cell? ⟨b, o, none⟩ = some v) : w'.cell? ⟨b, o, none⟩ = some v :=
  (World.cell?_of_block (w := w) (a := ⟨b, o, none⟩) (x.block b (cell_lt hc) h1)).trans hc
theorem frozen_of_block {w w' : World} {b o : Nat} (h : w'.heap[b]? = w.heap[b]?) : w'.frozen? ⟨b, o, none⟩ = w.frozen? ⟨b, o, none⟩ := by simp only [World.frozen?, h]
theorem Mv.frz {g : Nat} {w w' : World} (x : Mv g w w') {b o : Nat} (h1 : b ≠ g) (hb : b < w.heap.size) (hc : w.frozen? ⟨b, o, none⟩ = false) : w'.frozen? ⟨b, o, none⟩ = false :=
  (frozen_of_block (x.block b hb h1)).trans hc
theorem Mv.bel {g B : Nat} {a w w' : World} (hb : Below B a w) (x : Mv g w w') (h1 : B ≤ g) (hB : B ≤ w.heap.size) : Below B a w' :=
  hb.trans ⟨x.os, x.tape, x.output, x.size, fun k hk => x.block k (by omega) (by omega)⟩

/-- a code that came in: empty, or a row of bytes that lies below B -/
def Code (B : Nat) (w : World) (a : Option Addr) (len cap : Nat) (zs : List Int) : Prop :=
  len = 0 ∨
  ∃ b off : Nat, a = some ⟨b, off, none⟩ ∧ b < B ∧ b < w.heap.size ∧ len ≤ cap ∧ cap ≤ maxLen ∧ zs.length = cap ∧ (∀ i, i < zs.length → w.cell? ⟨b, off + i, none⟩ = some (.int .u8 (zs.getD i 0))) ∧ ∀ i, 0 ≤ zs.getD i 0 ∧ zs.getD i 0 ≤ 255

/-- a source in block g: its code, its place n, its seed s -/
structure Src (B : Nat) (a : Option Addr) (len cap : Nat) (zs : List Int) (g : Nat) (n s : Int) (w : World) : Prop where
  above : B ≤ g
  code : Code B w a len cap zs
  c0 : w.cell? ⟨g, 0, none⟩ = some (.slice a len cap)
  c1 : w.cell? ⟨g, 1, none⟩ = some (.int .i64 n)
  c2 : w.cell? ⟨g, 2, none⟩ = some (.int .i64 s)
  f1 : w.frozen? ⟨g, 1, none⟩ = false
  f2 : w.frozen? ⟨g, 2, none⟩ = false
  n0 : 0 ≤ n
  s0 : 0 ≤ s
  s1 : s < 2147483648
  l1 : len ≤ 9223372036854775807

theorem setCell_drewN (W : World) (q : Nat) (p : Addr) (v : Value) : (W.drewN q).setCell p v = (W.setCell p v).drewN q := rfl

set_option maxHeartbeats 1000000 in
theorem byte_in (B b off len cap : Nat) (g : Nat) (n s z : Int) (w : World) (hg : B ≤ g) (hb : b < B)
    (c0 : w.cell? ⟨g, 0, none⟩ = some (.slice (some ⟨b, off, none⟩) len cap)) (c1 : w.cell? ⟨g, 1, none⟩ = some (.int .i64 n)) (c2 : w.cell? ⟨g, 2, none⟩ = some (.int .i64 s))
    (f1 : w.frozen? ⟨g, 1, none⟩ = false) (f2 : w.frozen? ⟨g, 2, none⟩ = false) (n0 : 0 ≤ n) (s0 : 0 ≤ s) (s1 : s < 2147483648)
    (hn : n < (len : Int)) (hl : len ≤ 9223372036854775807) (hc : w.cell? ⟨b, off + n.toNat, none⟩ = some (.int .u8 z)) (z0 : 0 ≤ z) (z1 : z ≤ 255) :
    Calls Try.prog 91 #[.pointer (some ⟨g, 0, none⟩)] w fun e w' => e = .returned (.int .i64 z) ∧ ∃ q, w' = ((w.setCell ⟨g, 1, none⟩ (.int .i64 (n + 1))).setCell ⟨g, 2, none⟩ (.int .i64 ((s * 31 + z + 7) % 2147483648))).drewN q := by
  have hne : b ≠ g := by omega
  obtain ⟨k, rfl⟩ := Int.eq_ofNat_of_zero_le n0
  simp only [Int.toNat_natCast] at hc
  go_enter Try.func91, Try.ntmps91
  go_wp2
  go_quiet (fail)
  go_wp2_with fail
  go_region
  go_wp2_with fail
  go_quiet (fail)
  go_wp2
  go_ret
  exact ⟨rfl, _, by rw [setCell_drewN, World.drewN_drewN]⟩

set_option maxHeartbeats 1000000 in
theorem byte_far (len cap : Nat) (a : Option Addr) (g : Nat) (n : Int) (w : World)
    (c0 : w.cell? ⟨g, 0, none⟩ = some (.slice a len cap)) (c1 : w.cell? ⟨g, 1, none⟩ = some (.int .i64 n))
    (f1 : w.frozen? ⟨g, 1, none⟩ = false) (n0 : 0 ≤ n) (n1 : n ≤ 1000000000000) (hn : (len : Int) ≤ n) (hb : 3000 < n + 1) :
    Calls Try.prog 91 #[.pointer (some ⟨g, 0, none⟩)] w fun e w' => e = .returned (.int .i64 0) ∧ ∃ q, w' = (w.setCell ⟨g, 1, none⟩ (.int .i64 (n + 1))).drewN q := by
  go_enter Try.func91, Try.ntmps91
  go_wp2
  go_quiet (fail)
  go_wp2
  go_ret
  exact ⟨rfl, _, rfl⟩

set_option maxHeartbeats 1000000 in
theorem byte_mid (len cap : Nat) (a : Option Addr) (g : Nat) (n s : Int) (w : World)
    (c0 : w.cell? ⟨g, 0, none⟩ = some (.slice a len cap)) (c1 : w.cell? ⟨g, 1, none⟩ = some (.int .i64 n)) (c2 : w.cell? ⟨g, 2, none⟩ = some (.int .i64 s))
    (f1 : w.frozen? ⟨g, 1, none⟩ = false) (f2 : w.frozen? ⟨g, 2, none⟩ = false) (n0 : 0 ≤ n) (s0 : 0 ≤ s) (s1 : s < 2147483648)
    (hn : (len : Int) ≤ n) (hb : ¬ 3000 < n + 1) :
    Calls Try.prog 91 #[.pointer (some ⟨g, 0, none⟩)] w fun e w' => ∃ r s' q, e = .returned (.int .i64 r) ∧ 0 ≤ r ∧ r ≤ 255 ∧ 0 ≤ s' ∧ s' < 2147483648 ∧ w' = ((w.setCell ⟨g, 1, none⟩ (.int .i64 (n + 1))).setCell ⟨g, 2, none⟩ (.int .i64 s')).drewN q := by
  go_enter Try.func91, Try.ntmps91
  go_wp2
  go_quiet (fail)
  go_wp2
  go_ret
  refine ⟨_, _, _, rfl, ?_, ?_, ?_, ?_, rfl⟩
  all_goals omega

theorem Code.mv {B g : Nat} {w w1 : World} {a : Option Addr} {len cap : Nat} {zs : List Int} (h : Code B w a len cap zs) (hb : Mv g w w1) (hg : B ≤ g) : Code B w1 a len cap zs := by
  rcases h with h | ⟨b, off, rfl, h1, h0, h2, h3, h4, h5, h6⟩
  · exact .inl h
  · exact .inr ⟨b, off, rfl, h1, Nat.lt_of_lt_of_le h0 hb.size, h2, h3, h4, fun i hi => hb.cell (by omega) (h5 i hi), h6⟩
theorem Src.lt {B : Nat} {a : Option Addr} {len cap : Nat} {zs : List Int} {g : Nat} {n s : Int} {w : World} (h : Src B a len cap zs g n s w) : g < w.heap.size := cell_lt h.c0
theorem src_set1 {B : Nat} {a : Option Addr} {len cap : Nat} {zs : List Int} {g : Nat} {n s : Int} {w : World} (h : Src B a len cap zs g n s w) (q : Nat) :
    Src B a len cap zs g (n + 1) s ((w.setCell ⟨g, 1, none⟩ (.int .i64 (n + 1))).drewN q) := by
  have hb : Mv g w ((w.setCell ⟨g, 1, none⟩ (.int .i64 (n + 1))).drewN q) := ((Mv.refl g w).set _ _).dn q
  have h0 := h.c0
  have h1 := h.c1
  have h2 := h.c2
  have g1 := h.f1
  have g2 := h.f2
  have hn := h.n0
  exact ⟨h.above, h.code.mv hb h.above, by simp [go_sem, h0], by simp [go_sem, h1], by simp [go_sem, h2], by simp [go_sem, g1], by simp [go_sem, g2], by omega, h.s0, h.s1, h.l1⟩
theorem src_set2 {B : Nat} {a : Option Addr} {len cap : Nat} {zs : List Int} {g : Nat} {n s s' : Int} {w : World} (h : Src B a len cap zs g n s w) (q : Nat) (h0' : 0 ≤ s') (h1' : s' < 2147483648) :
    Src B a len cap zs g (n + 1) s' (((w.setCell ⟨g, 1, none⟩ (.int .i64 (n + 1))).setCell ⟨g, 2, none⟩ (.int .i64 s')).drewN q) := by
  have hb : Mv g w (((w.setCell ⟨g, 1, none⟩ (.int .i64 (n + 1))).setCell ⟨g, 2, none⟩ (.int .i64 s')).drewN q) := (((Mv.refl g w).set _ _).set _ _).dn q
  have h0 := h.c0
  have h1 := h.c1
  have h2 := h.c2
  have g1 := h.f1
  have g2 := h.f2
  have hn := h.n0
  exact ⟨h.above, h.code.mv hb h.above, by simp [go_sem, h0], by simp [go_sem, h1], by simp [go_sem, h2], by simp [go_sem, g1], by simp [go_sem, g2], by omega, h0', h1', h.l1⟩

/-- a source that has come at most k places far -/
def So (B g : Nat) (k : Int) (w : World) : Prop := ∃ a len cap zs n s, Src B a len cap zs g n s w ∧ n ≤ k
theorem So.up {B g : Nat} {k k' : Int} {w : World} (h : So B g k w) (hk : k ≤ k') : So B g k' w := by
  obtain ⟨a, len, cap, zs, n, s, h1, h2⟩ := h
  exact ⟨a, len, cap, zs, n, s, h1, Int.le_trans h2 hk⟩
theorem So.lt {B g : Nat} {k : Int} {w : World} (h : So B g k w) : g < w.heap.size := by
  obtain ⟨a, len, cap, zs, n, s, h1, h2⟩ := h
  exact h1.lt
theorem So.above {B g : Nat} {k : Int} {w : World} (h : So B g k w) : B ≤ g := by
  obtain ⟨a, len, cap, zs, n, s, h1, h2⟩ := h
  exact h1.above
/-- what leaves the source's block and all below it leaves the source -/
theorem So.kept {B g : Nat} {k : Int} {w w' : World} (h : So B g k w) (hh : ∀ b, b < w.heap.size → (b < B ∨ b = g) → w'.heap[b]? = w.heap[b]?) (hs : w.heap.size ≤ w'.heap.size) : So B g k w' := by
  obtain ⟨a, len, cap, zs, n, s, h1, h2⟩ := h
  have hg := hh g h1.lt (.inr rfl)
  have hc : ∀ o, w'.cell? ⟨g, o, none⟩ = w.cell? ⟨g, o, none⟩ := fun o => World.cell?_of_block (w := w) (a := ⟨g, o, none⟩) hg
  refine ⟨a, len, cap, zs, n, s, ⟨h1.above, ?_, (hc 0).trans h1.c0, (hc 1).trans h1.c1, (hc 2).trans h1.c2, (frozen_of_block hg).trans h1.f1, (frozen_of_block hg).trans h1.f2, h1.n0, h1.s0, h1.s1, h1.l1⟩, h2⟩
  rcases h1.code with h | ⟨b, off, rfl, h3, h0, h4, h5, h6, h7, h8⟩
  · exact .inl h
  · exact .inr ⟨b, off, rfl, h3, Nat.lt_of_lt_of_le h0 hs, h4, h5, h6, fun i hi => (World.cell?_of_block (w := w) (a := ⟨b, off + i, none⟩) (hh b h0 (.inl h3))).trans (h7 i hi), h8⟩
theorem So.bel {B g : Nat} {k : Int} {w w' : World} (h : So B g k w) (hb : Below w.heap.size w w') : So B g k w' := h.kept (fun b h1 _ => hb.block b h1) hb.size
theorem So.alloc {B g : Nat} {k : Int} {w : World} (h : So B g k w) (o : Obj) : So B g k (w.alloc o) := h.bel (ba (Below.refl _ _) o)
theorem So.drew {B g : Nat} {k : Int} {w : World} (h : So B g k w) : So B g k w.drew := h.bel (Below.drew (Below.refl _ _))
theorem So.set {B g T : Nat} {k : Int} {w : World} (h : So B g k w) (hT : B ≤ T) (hg : T ≠ g) (o : Nat) (v : Value) : So B g k (w.setCell ⟨T, o, none⟩ v) :=
  h.kept (fun b _ h2 => Below.heap_setCell _ _ _ _ (show b ≠ T by have := h.above; omega)) (by simp [World.setCell])

/-- a byte: a number from 0 to 255; the source stands one place on -/
theorem byte_any {B g : Nat} {k : Int} {w : World} (h : So B g k w) (n1 : k ≤ 1000000000000) :
    Calls Try.prog 91 #[.pointer (some ⟨g, 0, none⟩)] w fun e w' => ∃ r : Int, e = .returned (.int .i64 r) ∧ 0 ≤ r ∧ r ≤ 255 ∧ So B g (k + 1) w' ∧ Mv g w w' := by
  obtain ⟨a, len, cap, zs, n, s, h, hk⟩ := h
  by_cases hn : n < (len : Int)
  · rcases h.code with h0 | ⟨b, off, rfl, hb, hw, h2, h3, h4, h5, h6⟩
    · have := h.n0; omega
    · have hn0 := h.n0
      unfold maxLen at h3
      have hc := h5 n.toNat (by omega)
      have hz := h6 n.toNat
      refine (byte_in B b off len cap g n s _ w h.above hb h.c0 h.c1 h.c2 h.f1 h.f2 h.n0 h.s0 h.s1 hn (by omega) hc hz.1 hz.2).mono ?_
      rintro e w' ⟨rfl, q, rfl⟩
      exact ⟨_, rfl, hz.1, hz.2, ⟨_, _, _, _, _, _, src_set2 h q (by omega) (by omega), by omega⟩, (((Mv.refl g w).set _ _).set _ _).dn q⟩
  · by_cases hb : 3000 < n + 1
    · refine (byte_far len cap a g n w h.c0 h.c1 h.f1 h.n0 (by omega) (by omega) hb).mono ?_
      rintro e w' ⟨rfl, q, rfl⟩
      exact ⟨0, rfl, by omega, by omega, ⟨_, _, _, _, _, _, src_set1 h q, by omega⟩, ((Mv.refl g w).set _ _).dn q⟩
    · refine (byte_mid len cap a g n s w h.c0 h.c1 h.c2 h.f1 h.f2 h.n0 h.s0 h.s1 (by omega) hb).mono ?_
      rintro e w' ⟨r, s', q, rfl, hr0, hr1, hs0, hs1, rfl⟩
      exact ⟨r, rfl, hr0, hr1, ⟨_, _, _, _, _, _, src_set2 h q hs0 hs1, by omega⟩, (((Mv.refl g w).set _ _).set _ _).dn q⟩

set_option maxHeartbeats 400000 in
theorem next_small {B g : Nat} {k : Int} {w : World} (m : Int) (h : So B g k w) (n1 : k ≤ 1000000000000) (m0 : 2 ≤ m) (m1 : m ≤ 256) :
    Calls Try.prog 64 #[.pointer (some ⟨g, 0, none⟩), .int .i64 m] w fun e w' => ∃ r : Int, e = .returned (.int .i64 r) ∧ 0 ≤ r ∧ r < m ∧ So B g (k + 3) w' ∧ Mv g w w' := by
  have HB := hide (byte_any h n1)
  have hz : (m == 0) = false := by rw [beq_eq_false_iff_ne]; omega
  clear h
  go_enter Try.func64, Try.ntmps64
  go_wp2_with fail
  refine (unhide HB).mono ?_
  rintro e w1 ⟨r, rfl, r0, r1, hs, hb⟩
  have HS := hide hs
  have HW := hide hb
  have hr := Int.emod_nonneg r (b := m) (by omega)
  have hr2 := Int.emod_lt_of_pos r (b := m) (by omega)
  clear hs hb
  go_wp2
  go_ret
  exact ⟨r % m, rfl, hr, hr2, (unhide HS).up (by omega), unhide HW⟩

set_option maxHeartbeats 400000 in
theorem next_big {B g : Nat} {k : Int} {w : World} (m : Int) (h : So B g k w) (n1 : k ≤ 1000000000) (m0 : 256 < m) (m1 : m ≤ 9223372036854775807) :
    Calls Try.prog 64 #[.pointer (some ⟨g, 0, none⟩), .int .i64 m] w fun e w' => ∃ r : Int, e = .returned (.int .i64 r) ∧ 0 ≤ r ∧ r < m ∧ So B g (k + 3) w' ∧ Mv g w w' := by
  have HB := hide (byte_any h (by omega))
  have hz : (m == 0) = false := by rw [beq_eq_false_iff_ne]; omega
  clear h
  go_enter Try.func64, Try.ntmps64
  go_wp2_with fail
  refine (unhide HB).mono ?_
  rintro e w1 ⟨r, rfl, r0, r1, hs, hb⟩
  have H2 := hide (byte_any hs (by omega))
  have W1 := hide hb
  clear hs hb
  go_wp2_with fail
  refine (unhide H2).mono ?_
  rintro e w2 ⟨t, rfl, t0, t1, hs, hb⟩
  have H3 := hide (byte_any hs (by omega))
  have W2 := hide hb
  clear hs hb
  go_wp2_with fail
  refine (unhide H3).mono ?_
  rintro e w3 ⟨u, rfl, u0, u1, hs, hb⟩
  have HS := hide hs
  have W3 := hide hb
  have hr := Int.emod_nonneg (r * 65536 + t * 256 + u) (b := m) (by omega)
  have hr2 := Int.emod_lt_of_pos (r * 65536 + t * 256 + u) (b := m) (by omega)
  clear hs hb
  go_wp2
  go_ret
  exact ⟨(r * 65536 + t * 256 + u) % m, rfl, hr, hr2, (unhide HS).up (by omega), ((unhide W1).trans (unhide W2)).trans (unhide W3)⟩

set_option maxHeartbeats 400000 in
theorem next_none {B g : Nat} {k : Int} {w : World} (m : Int) (h : So B g k w) (m1 : m ≤ 1) :
    Calls Try.prog 64 #[.pointer (some ⟨g, 0, none⟩), .int .i64 m] w fun e w' => e = .returned (.int .i64 0) ∧ So B g (k + 3) w' ∧ Mv g w w' := by
  have HB := hide h
  clear h
  go_enter Try.func64, Try.ntmps64
  go_wp2
  go_ret
  exact ⟨rfl, (unhide HB).up (by omega), Mv.refl _ _⟩

/-- one of 0 to m - 1, or 0 -/
theorem next_all {B g : Nat} {k : Int} {w : World} (m : Int) (h : So B g k w) (n1 : k ≤ 1000000000) (m1 : m ≤ 9223372036854775807) :
    Calls Try.prog 64 #[.pointer (some ⟨g, 0, none⟩), .int .i64 m] w fun e w' => ∃ r : Int, e = .returned (.int .i64 r) ∧ 0 ≤ r ∧ (r = 0 ∨ r < m) ∧ r ≤ 9223372036854775806 ∧ So B g (k + 3) w' ∧ Mv g w w' := by
  by_cases h1 : m ≤ 1
  · refine (next_none m h h1).mono ?_
    rintro e w' ⟨rfl, h2, h3⟩
    exact ⟨0, rfl, by omega, .inl rfl, by omega, h2, h3⟩
  · by_cases hm : m ≤ 256
    · refine (next_small m h (by omega) (by omega) hm).mono ?_
      rintro e w' ⟨r, rfl, h4, h5, h2, h3⟩
      exact ⟨r, rfl, h4, .inr h5, by omega, h2, h3⟩
    · refine (next_big m h n1 (by omega) m1).mono ?_
      rintro e w' ⟨r, rfl, h4, h5, h2, h3⟩
      exact ⟨r, rfl, h4, .inr h5, by omega, h2, h3⟩
theorem next_any {B g : Nat} {k : Int} {w : World} (m : Int) (h : So B g k w) (n1 : k ≤ 1000000000) (m0 : 1 ≤ m) (m1 : m ≤ 9223372036854775807) :
    Calls Try.prog 64 #[.pointer (some ⟨g, 0, none⟩), .int .i64 m] w fun e w' => ∃ r : Int, e = .returned (.int .i64 r) ∧ 0 ≤ r ∧ r < m ∧ So B g (k + 3) w' ∧ Mv g w w' := by
  refine (next_all m h n1 m1).mono ?_
  rintro e w' ⟨r, rfl, h4, h5, _, h2, h3⟩
  exact ⟨r, rfl, h4, by omega, h2, h3⟩

set_option maxHeartbeats 400000 in
theorem size_any {B g : Nat} {k : Int} {w : World} (m : Int) (h : So B g k w) (m0 : 1 ≤ m) (m1 : m ≤ 1000000) :
    Calls Try.prog 65 #[.pointer (some ⟨g, 0, none⟩), .int .i64 m] w fun e w' => ∃ r : Int, e = .returned (.int .i64 r) ∧ 1 ≤ r ∧ r ≤ m ∧ w' = w := by
  obtain ⟨a, len, cap, zs, n, s, h, hk⟩ := h
  have c0 := h.c0
  have l1 := h.l1
  clear h
  go_enter Try.func65, Try.ntmps65
  go_wp2
  all_goals
    go_ret
    refine ⟨_, rfl, ?_, ?_, rfl⟩
    all_goals omega

set_option maxHeartbeats 400000 in
theorem source_any (a : Option Addr) (len cap : Nat) (zs : List Int) (w : World) (hc : Code w.heap.size w a len cap zs) (hl : len ≤ 9223372036854775807) :
    Calls Try.prog 31 #[.slice a len cap] w fun e w' => e = .returned (.pointer (some ⟨w.heap.size, 0, none⟩)) ∧ Below w.heap.size w w' ∧ So w.heap.size w.heap.size 0 w' := by
  have HC := hide hc
  clear hc
  go_enter Try.func31, Try.ntmps31
  go_wp2
  go_ret
  have hb : Below w.heap.size w (w.alloc (.cells #[.slice a len cap, .int .i64 0, .int .i64 ((len : Int) % 1000)] 100)) := ba (Below.refl _ _) _
  exact ⟨rfl, hb, ⟨a, len, cap, zs, 0, (len : Int) % 1000, ⟨Nat.le_refl _, (unhide HC).mv (Mv.of_bel hb) (Nat.le_refl _), by simp [go_sem], by simp [go_sem], by simp [go_sem], by simp [go_sem], by simp [go_sem], by omega, by omega, by omega, hl⟩, by omega⟩⟩
end Go.Proofs.Ytjhldjojkaphkaa

namespace Go.Proofs.Ytjhldjojkaphkaa
open Go.ChangeShapes Go.WideShapes Go.ChangeAt Go.RowKit
set_option linter.unusedVariables false
set_option linter.unusedSimpArgs false

theorem Row.mv {w w' : World} {B t k n g : Nat} {v : Value} {L : List Int} (h : Row w B t k v n L) (hb : Mv g w w') (hg : g < B) : Row w' B t k v n L :=
  h.kept' (fun b hb' => by have := World.ownsRow.lt h b hb'; exact hb.block b this.2 (by omega))
theorem So.belB {B g C : Nat} {k : Int} {w w' : World} (h : So B g k w) (hb : Below C w w') (hg : g < C) : So B g k w' := by
  have := h.above
  exact h.kept (fun b _ h2 => hb.block b (by omega)) hb.size
theorem Mv.belB {g C : Nat} {w W w' : World} (x : Mv g w W) (hb : Below C W w') (hC : w.heap.size ≤ C) : Mv g w w' :=
  ⟨hb.os.trans x.os, hb.tape.trans x.tape, hb.output.trans x.output, Nat.le_trans x.size hb.size, fun k hk h1 => (hb.block k (by omega)).trans (x.block k hk h1)⟩
end Go.Proofs.Ytjhldjojkaphkaa

namespace Go.Proofs.Ytjhldjojkaphkaa
open Go.ChangeShapes Go.WideShapes Go.ChangeAt Go.RowKit
set_option linter.unusedVariables false
set_option linter.unusedSimpArgs false

def mvv (m : Mve) : Value := .agg #[.bool m.f, .int .i64 m.x, .int .i64 m.y, .int .i64 m.z]
def mv0 : Mve := ⟨false, 0, 0, 0⟩
/-- the moves lie in the cells from off on -/
def MvAt (w : World) (b off : Nat) (ms : List Mve) : Prop := ∀ (i : Nat) (l : Mve), ms[i]? = some l →
  w.cell? ⟨b, off + i * 4, none⟩ = some (.bool l.f) ∧ w.cell? ⟨b, off + i * 4 + 1, none⟩ = some (.int .i64 l.x) ∧ w.cell? ⟨b, off + i * 4 + 2, none⟩ = some (.int .i64 l.y) ∧ w.cell? ⟨b, off + i * 4 + 3, none⟩ = some (.int .i64 l.z)
theorem MvAt.blk {w w' : World} {b off : Nat} {ms : List Mve} (h : MvAt w b off ms) (hb : w'.heap[b]? = w.heap[b]?) : MvAt w' b off ms := by
  intro i l hi
  obtain ⟨h0, h1, h2, h3⟩ := h i l hi
  exact ⟨(World.cell?_of_block (w := w) (a := ⟨b, _, none⟩) hb).trans h0, (World.cell?_of_block (w := w) (a := ⟨b, _, none⟩) hb).trans h1, (World.cell?_of_block (w := w) (a := ⟨b, _, none⟩) hb).trans h2, (World.cell?_of_block (w := w) (a := ⟨b, _, none⟩) hb).trans h3⟩
theorem MvAt.below {B : Nat} {w w' : World} {b off : Nat} {ms : List Mve} (h : MvAt w b off ms) (hb : Below B w w') (hB : b < B) : MvAt w' b off ms := h.blk (hb.block b hB)
theorem vb.moves {w : World} {g t : Nat} {ms : List Mve} (h : vb w g t (flat4 ms)) : MvAt w g 0 ms := by
  intro i l hi
  obtain ⟨h0, h1, h2, h3⟩ := flat4_at hi
  simp only [Nat.zero_add]
  exact ⟨h.cell h0, h.cell h1, h.cell h2, h.cell h3⟩
/-- a slice of moves that came in -/
def Mvi (w : World) (u : Option Addr) (p po : Nat) (ms : List Mve) : Prop := ms ≠ [] → u = some ⟨p, po, none⟩ ∧ p < w.heap.size ∧ MvAt w p po ms
theorem Mvi.bel {w w' : World} {u : Option Addr} {p po : Nat} {ms : List Mve} (h : Mvi w u p po ms) (hb : Below w.heap.size w w') : Mvi w' u p po ms :=
  fun h0 => ⟨(h h0).1, Nat.lt_of_lt_of_le (h h0).2.1 hb.size, (h h0).2.2.below hb (h h0).2.1⟩
theorem Mvi.drew {w : World} {u : Option Addr} {p po : Nat} {ms : List Mve} (h : Mvi w u p po ms) : Mvi w.drew u p po ms := h
theorem vb.mvs {w : World} {g t : Nat} {ms : List Mve} (h : vb w g t (flat4 ms)) : Mvi w (some ⟨g, 0, none⟩) g 0 ms := fun _ => ⟨rfl, h.lt, h.moves⟩
theorem Mvi.at {w : World} {u : Option Addr} {p po : Nat} {ms : List Mve} (h : Mvi w u p po ms) {i : Nat} {l : Mve} (hi : ms[i]? = some l) : u = some ⟨p, po, none⟩ ∧ p < w.heap.size ∧
    w.cell? ⟨p, po + i * 4, none⟩ = some (.bool l.f) ∧ w.cell? ⟨p, po + i * 4 + 1, none⟩ = some (.int .i64 l.x) ∧ w.cell? ⟨p, po + i * 4 + 2, none⟩ = some (.int .i64 l.y) ∧ w.cell? ⟨p, po + i * 4 + 3, none⟩ = some (.int .i64 l.z) := by
  obtain ⟨h1, h2, h3⟩ := h (by intro e; subst e; cases hi)
  exact ⟨h1, h2, h3 i l hi⟩

/-- a made row of moves -/
theorem made_moves (m : Nat) : madeCells (mvv mv0).cells (m * 4) = (flat4 (List.replicate m mv0)).toArray := by
  apply Array.ext
  · simp [madeCells, flat4_len]
  · intro i h1 h2
    have hi : i < m * 4 := by simpa [madeCells] using h1
    have hd : i / 4 < m := by omega
    have hr : (List.replicate m mv0)[i / 4]? = some mv0 := by simp [List.getElem?_replicate, hd]
    obtain ⟨f0, f1, f2, f3⟩ := flat4_at hr
    have hx : (flat4 (List.replicate m mv0))[i]? = some (flat4 (List.replicate m mv0))[i] := List.getElem?_eq_getElem _
    have hc : (mvv mv0).cells = #[.bool false, .int .i64 0, .int .i64 0, .int .i64 0] := rfl
    have h5 : i % 4 = 0 ∨ i % 4 = 1 ∨ i % 4 = 2 ∨ i % 4 = 3 := by omega
    simp only [madeCells, Array.getElem_map, Array.getElem_range, hc, List.getElem_toArray]
    show (#[Value.bool false, .int .i64 0, .int .i64 0, .int .i64 0] : Array Value)[i % 4]! = _
    rcases h5 with e | e | e | e <;> rw [e]
    · rw [show i / 4 * 4 = i by omega, hx] at f0; exact (Option.some.inj f0).symm
    · rw [show i / 4 * 4 + 1 = i by omega, hx] at f1; exact (Option.some.inj f1).symm
    · rw [show i / 4 * 4 + 2 = i by omega, hx] at f2; exact (Option.some.inj f2).symm
    · rw [show i / 4 * 4 + 3 = i by omega, hx] at f3; exact (Option.some.inj f3).symm
theorem make_moves {P : Program} (t e bytes n : Nat) (ht : P.underlying t = some (.slice e))
    (hi : (P.info? e).map (fun i => (i.zero, i.size, i.bytes)) = some (some (mvv mv0), 4, bytes)) (hb : bytes * n ≤ 281474976710656) (hn : n ≤ 9223372036854775807) (W : World) :
    (Instr.makeSlice t (.int .i64 (n : Int)) (.int .i64 (n : Int))).run P W = .ok (.slice (some ⟨W.heap.size, 0, none⟩) n n) (W.alloc (.cells (flat4 (List.replicate n mv0)).toArray e)) := by
  cases hx : P.info? e with
  | none => rw [hx] at hi; simp at hi
  | some i =>
    rw [hx] at hi
    simp only [Option.map_some, Option.some.injEq, Prod.mk.injEq] at hi
    obtain ⟨h0, h1, h2⟩ := hi
    have hb' : (i.bytes : Int) * (n : Int) ≤ 281474976710656 := by
      have h3 : ((bytes * n : Nat) : Int) ≤ 281474976710656 := by omega
      rw [h2]
      rwa [Int.natCast_mul] at h3
    have := run_make (P := P) W t e i (mvv mv0) ht hx h0 .i64 .i64 n n (by omega) (by omega) hb' (by omega)
    rw [Int.toNat_natCast, h1, made_moves] at this
    exact this
/-- a row filled up to a place -/
def fillM (ms : List Mve) (i : Nat) : List Mve := ms.take i ++ List.replicate (ms.length - i) mv0
theorem fillM_len (ms : List Mve) (i : Nat) (h : i ≤ ms.length) : (fillM ms i).length = ms.length := by simp [fillM]; omega
theorem fillM_at (ms : List Mve) (i : Nat) (h : i < ms.length) : (fillM ms i)[i]? = some mv0 := by
  unfold fillM
  rw [List.getElem?_append_right (by simp; omega), List.getElem?_replicate]
  simp
  omega
theorem fillM_step (ms : List Mve) (i : Nat) (l : Mve) (h : ms[i]? = some l) : (fillM ms i).set i l = fillM ms (i + 1) := by
  have hi : i < ms.length := (List.getElem?_eq_some_iff.1 h).1
  unfold fillM
  have hl : (ms.take i).length = i := by simp; omega
  rw [List.set_append, if_neg (by omega), hl, Nat.sub_self, List.take_add_one, h]
  have e : ms.length - i = (ms.length - (i + 1)) + 1 := by omega
  rw [e, List.replicate_succ]
  simp
theorem fillM_zero (ms : List Mve) : fillM ms 0 = List.replicate ms.length mv0 := by simp [fillM]
theorem fillM_all (ms : List Mve) : fillM ms ms.length = ms := by simp [fillM]
end Go.Proofs.Ytjhldjojkaphkaa

namespace Go.Proofs.Ytjhldjojkaphkaa
set_option linter.unusedVariables false
set_option linter.unusedSimpArgs false

/-- where the tool stands, and what is left, behind the first k moves -/
def mlK (P : List Int) (W H r : Nat) (S : List Int) (ms : List Mve) : Nat → (Int × Int × Int) × Ml
  | 0 => ((0, 0, 24), ⟨S, 0, 0, 0⟩)
  | k + 1 => match ms[k]? with
    | none => mlK P W H r S ms k
    | some m => ((m.x, m.y, m.z), (walkC P W H r m.f (mlK P W H r S ms k).1.1 (mlK P W H r S ms k).1.2.1 (mlK P W H r S ms k).1.2.2 m.x m.y m.z (mlK P W H r S ms k).2 (max (stN (mlK P W H r S ms k).1.1 (mlK P W H r S ms k).1.2.1 (mlK P W H r S ms k).1.2.2 m.x m.y m.z) 1)).2)
/-- the code of the move number k -/
def mlC (P : List Int) (W H r : Nat) (S : List Int) (ms : List Mve) (k : Nat) : Int := match ms[k]? with
  | none => 0
  | some m => mvCd P W H r m.f (mlK P W H r S ms k).1.1 (mlK P W H r S ms k).1.2.1 (mlK P W H r S ms k).1.2.2 m.x m.y m.z (mlK P W H r S ms k).2
/-- all moves ahead of i can be -/
def mlGo (P : List Int) (W H r : Nat) (S : List Int) (ms : List Mve) (i : Nat) : Prop := ∀ j, j < i → mlC P W H r S ms j = 0
/-- i is the first move that can not be, or the end -/
structure MlEnd (P : List Int) (W H r : Nat) (S : List Int) (ms : List Mve) (i : Nat) : Prop where
  le : i ≤ ms.length
  go : mlGo P W H r S ms i
  no : i < ms.length → mlC P W H r S ms i ≠ 0
theorem MlEnd.uniq {P : List Int} {W H r : Nat} {S : List Int} {ms : List Mve} {i j : Nat} (h : MlEnd P W H r S ms i) (k : MlEnd P W H r S ms j) : i = j := by
  rcases Nat.lt_trichotomy i j with h1 | h1 | h1
  · exact absurd (k.go i h1) (h.no (by have := k.le; omega))
  · exact h1
  · exact absurd (h.go j h1) (k.no (by have := h.le; omega))
/-- the number that is told with a code -/
def mlB (ms : List Mve) (i : Nat) : Int := if i < ms.length then (i : Int) else 0
theorem mlC_end {P : List Int} {W H r : Nat} {S : List Int} {ms : List Mve} : mlC P W H r S ms ms.length = 0 := by
  unfold mlC
  rw [List.getElem?_eq_none (Nat.le_refl _)]
theorem mlB_end {ms : List Mve} : mlB ms ms.length = 0 := by unfold mlB; simp
theorem mlB_in {ms : List Mve} {i : Nat} (h : i < ms.length) : mlB ms i = (i : Int) := by unfold mlB; rw [if_pos h]
theorem stN_le {W H : Nat} {fx fy fz tx ty tz : Int} (hW : W ≤ 24) (hH : H ≤ 24) (hs : str fx fy fz tx ty tz) (hf : inR W H fx fy fz) (ht : inR W H tx ty tz) : max (stN fx fy fz tx ty tz) 1 ≤ 24 := by
  unfold stN
  unfold inR at hf ht
  rcases hs with ⟨rfl, rfl⟩ | ⟨rfl, rfl⟩ | ⟨rfl, rfl⟩ <;> omega
theorem wyC_zero {W H : Nat} {fx fy fz tx ty tz : Int} (h : wyC W H fx fy fz tx ty tz = 0) : inR W H tx ty tz ∧ str fx fy fz tx ty tz := by
  unfold wyC at h
  split at h
  · cases h
  · rename_i h1
    split at h
    · cases h
    · exact ⟨Classical.not_not.1 h1, chg_str.1 (by omega)⟩
theorem mvCd_zero {P : List Int} {W H r : Nat} {fast : Bool} {fx fy fz tx ty tz : Int} {s : Ml} (h : mvCd P W H r fast fx fy fz tx ty tz s = 0) : wyC W H fx fy fz tx ty tz = 0 ∧ (walkC P W H r fast fx fy fz tx ty tz s (max (stN fx fy fz tx ty tz) 1)).1 = 0 := by
  unfold mvCd at h
  split at h
  · rename_i h1; exact absurd h h1
  · rename_i h1; exact ⟨Classical.not_not.1 h1, h⟩
/-- numbers behind the first moves -/
structure MlOk (W H n : Nat) (a : (Int × Int × Int) × Ml) (i : Nat) : Prop where
  at' : inR W H a.1.1 a.1.2.1 a.1.2.2
  ok : MOk n a.2
  air : 0 ≤ a.2.air ∧ a.2.air ≤ 24 * (i : Int)
theorem mlK_ok {P : List Int} {W H r n : Nat} {S : List Int} {ms : List Mve} (hr : r ≤ 3) (hW1 : 1 ≤ W) (hW : W ≤ 24) (hH1 : 1 ≤ H) (hH : H ≤ 24) (hn : n = W * H) (hS : S.length = n) (hSt : ∀ i, 0 ≤ tp S i ∧ tp S i ≤ 24) :
    ∀ i, mlGo P W H r S ms i → MlOk W H n (mlK P W H r S ms i) i := by
  intro i
  induction i with
  | zero =>
    intro _
    refine ⟨?_, ⟨hS, hSt, Int.le_refl _, ?_, by show (0 : Int) ≤ 0 ∧ (0 : Int) ≤ 24; omega⟩, by show (0 : Int) ≤ 0 ∧ _; simp [mlK]⟩
    · show inR W H 0 0 24
      unfold inR
      omega
    · show (0 : Int) + sm S ≤ 24 * n
      have := (sm_nn S (tops_mem hSt)).2
      rw [hS] at this
      omega
  | succ i ih =>
    intro hg
    have h0 := ih (fun j hj => hg j (by omega))
    have hi := hg i (by omega)
    unfold mlC at hi
    rw [mlK]
    cases hm : ms[i]? with
    | none =>
      simp only
      exact ⟨h0.at', h0.ok, by have := h0.air; omega⟩
    | some m =>
      rw [hm] at hi
      simp only at hi ⊢
      obtain ⟨hw, hk⟩ := mvCd_zero hi
      obtain ⟨h1, h2⟩ := wyC_zero hw
      have h24 := stN_le hW hH h2 h0.at' h1
      have hz : ∀ i_1, 1 ≤ i_1 → i_1 ≤ max (stN (mlK P W H r S ms i).1.1 (mlK P W H r S ms i).1.2.1 (mlK P W H r S ms i).1.2.2 m.x m.y m.z) 1 → 0 ≤ nth (mlK P W H r S ms i).1.2.2 m.z i_1 := fun k k1 k2 =>
        ((nth_lo h2 k2 k1 (lo := 0) (hi' := 24)).2.2 ⟨h0.at'.2.2.1, h0.at'.2.2.2⟩ ⟨h1.2.2.1, h1.2.2.2⟩).1
      obtain ⟨o1, o2, o3⟩ := walkC_ok (P := P) (W := W) (H := H) (r := r) (fast := m.f) hr (by omega) hn h0.ok hz _ (Nat.le_refl _)
      refine ⟨h1, o1, ?_⟩
      have := h0.air
      show 0 ≤ (walkC P W H r m.f _ _ _ m.x m.y m.z _ _).2.air ∧ _
      simp only at o2 o3 ⊢
      omega
/-- a move more -/
theorem mlK_succ {P : List Int} {W H r : Nat} {S : List Int} {ms : List Mve} {k : Nat} {m : Mve} (h : ms[k]? = some m) {ax ay az : Int} {s : Ml} (he : mlK P W H r S ms k = ((ax, ay, az), s)) :
    mlK P W H r S ms (k + 1) = ((m.x, m.y, m.z), (walkC P W H r m.f ax ay az m.x m.y m.z s (max (stN ax ay az m.x m.y m.z) 1)).2) := by
  rw [mlK, h, he]
theorem mlC_at {P : List Int} {W H r : Nat} {S : List Int} {ms : List Mve} {k : Nat} {m : Mve} (h : ms[k]? = some m) {ax ay az : Int} {s : Ml} (he : mlK P W H r S ms k = ((ax, ay, az), s)) :
    mlC P W H r S ms k = mvCd P W H r m.f ax ay az m.x m.y m.z s := by
  unfold mlC
  rw [h, he]
theorem mlGo_succ {P : List Int} {W H r : Nat} {S : List Int} {ms : List Mve} {k : Nat} (h : mlGo P W H r S ms k) (hc : mlC P W H r S ms k = 0) : mlGo P W H r S ms (k + 1) := by
  intro j hj
  by_cases e : j = k
  · subst e; exact hc
  · exact h j (by omega)
end Go.Proofs.Ytjhldjojkaphkaa

namespace Go.Proofs.Ytjhldjojkaphkaa
set_option linter.unusedVariables false
set_option linter.unusedSimpArgs false

theorem xy_of {W H i : Nat} (hi : i < W * H) : i % W < W ∧ i / W < H ∧ i / W * W + i % W = i := by
  have hW : 0 < W := by
    rcases Nat.eq_zero_or_pos W with h | h
    · subst h; simp at hi
    · exact h
  exact ⟨Nat.mod_lt _ hW, Nat.div_lt_of_lt_mul hi, by rw [Nat.mul_comm]; exact Nat.div_add_mod i W⟩
theorem pos_of {W H i : Nat} (hi : i < W * H) : 0 < H := by
  rcases Nat.eq_zero_or_pos H with h | h
  · subst h; simp at hi
  · exact h
theorem sym_of {W H r i j : Nat} (hr : r ≤ 3) (hi : i < W * H) (hj : j < W * H) : i ∈ cols W H r (j % W) (j / W) ↔ j ∈ cols W H r (i % W) (i / W) := by
  obtain ⟨a1, a2, a3⟩ := xy_of hi
  obtain ⟨b1, b2, b3⟩ := xy_of hj
  have := cols_sym (r := r) hr b1 b2 a1 a2
  rw [a3, b3] at this
  exact this
theorem low_tp {W H r : Nat} {T : List Int} {j : Nat} (hj : j < W * H) : tp (lowL W H r T) j = hi T (cols W H r (j % W) (j / W)) := byL_tp _ _ hj
theorem fl_tp {W H r : Nat} {T : List Int} {j : Nat} (hj : j < W * H) : tp (flL W H r T) j = lo (lowL W H r T) (cols W H r (j % W) (j / W)) := byL_tp _ _ hj
theorem flL_len' (W H r : Nat) (T : List Int) : (flL W H r T).length = W * H := byL_len _ _ _
/-- a floor is no higher than the lowest place of any place that takes of it -/
theorem fl_le {W H r : Nat} {T : List Int} (hr : r ≤ 3) {i j : Nat} (hi0 : i < W * H) (hj : j < W * H) (h : i ∈ cols W H r (j % W) (j / W)) : tp (flL W H r T) i ≤ hi T (cols W H r (j % W) (j / W)) := by
  rw [fl_tp hi0, ← low_tp hj]
  exact lo_mem ((sym_of hr hi0 hj).1 h)
theorem fl_ge {W H r : Nat} {T : List Int} (hr : r ≤ 3) (hT : ∀ i, 0 ≤ tp T i ∧ tp T i ≤ 24) {i : Nat} (hi : i < W * H) : tp T i ≤ tp (flL W H r T) i := by
  rw [fl_tp hi, lo_ge]
  refine ⟨(hT i).2, fun j hj => ?_⟩
  have hjl := cols_lt hr (pos_of hi) hj
  rw [low_tp hjl]
  exact hi_mem ((sym_of hr hi hjl).2 hj)
theorem fl_bd {W H r : Nat} {T : List Int} (hr : r ≤ 3) (hT : ∀ i, 0 ≤ tp T i ∧ tp T i ≤ 24) (i : Nat) : 0 ≤ tp (flL W H r T) i ∧ tp (flL W H r T) i ≤ 24 := by
  by_cases hi : i < W * H
  · refine ⟨Int.le_trans (hT i).1 (fl_ge hr hT hi), ?_⟩
    rw [fl_tp hi]
    exact lo_le _ _
  · unfold tp
    rw [List.getD_eq_getElem?_getD, List.getElem?_eq_none (by rw [flL_len']; omega)]
    simp
theorem fl_ok {W H r : Nat} {T : List Int} (hr : r ≤ 3) (h : FOk (W : Int) (H : Int) T) : FOk (W : Int) (H : Int) (flL W H r T) := by
  refine ⟨h.w1, h.w2, h.h1, h.h2, by rw [flL_len']; simp, ?_⟩
  rw [List.all_eq_true]
  intro x hx
  obtain ⟨i, hi, rfl⟩ := List.getElem_of_mem hx
  have := fl_bd (W := W) (H := H) hr h.tops_tp i
  rw [tp_of (List.getElem?_eq_getElem hi)] at this
  exact topOk_iff.2 this
theorem low_fl {W H r : Nat} {T : List Int} (hr : r ≤ 3) (hT : ∀ i, 0 ≤ tp T i ∧ tp T i ≤ 24) : lowL W H r (flL W H r T) = lowL W H r T := by
  refine list_ext (by unfold lowL; rw [byL_len, byL_len]) fun j hj => ?_
  have hj' : j < W * H := by unfold lowL at hj; rwa [byL_len] at hj
  rw [low_tp hj', low_tp hj']
  refine Int.le_antisymm ?_ ?_
  · rw [hi_le]
    refine ⟨hi_nn _ _, fun i hi => ?_⟩
    exact fl_le hr (cols_lt hr (pos_of hj') hi) hj' hi
  · rw [hi_le]
    refine ⟨hi_nn _ _, fun i hi => ?_⟩
    exact Int.le_trans (fl_ge hr hT (cols_lt hr (pos_of hj') hi)) (hi_mem hi)
theorem fl_fl {W H r : Nat} {T : List Int} (hr : r ≤ 3) (hT : ∀ i, 0 ≤ tp T i ∧ tp T i ≤ 24) : flL W H r (flL W H r T) = flL W H r T := by
  show byL (fun x y => lo (lowL W H r (flL W H r T)) (cols W H r x y)) W (W * H) = _
  rw [low_fl hr hT]
  rfl
theorem fl_zero {W H : Nat} {T : List Int} (hl : T.length = W * H) (hT : ∀ i, 0 ≤ tp T i ∧ tp T i ≤ 24) : flL W H 0 T = T := by
  refine list_ext (by rw [flL_len', hl]) fun i hi => ?_
  rw [flL_len'] at hi
  obtain ⟨a1, a2, a3⟩ := xy_of hi
  have hl0 : tp (lowL W H 0 T) i = tp T i := by
    rw [low_tp hi]
    refine Int.le_antisymm ?_ ?_
    · rw [hi_le]
      refine ⟨(hT i).1, fun j hj => ?_⟩
      rw [(cols_tool0 a1 a2).1 hj, a3]
      exact Int.le_refl _
    · exact hi_mem ((cols_tool0 a1 a2).2 a3.symm)
  rw [fl_tp hi]
  refine Int.le_antisymm ?_ ?_
  · rw [← hl0]
    exact lo_mem ((cols_tool0 a1 a2).2 a3.symm)
  · rw [lo_ge]
    refine ⟨(hT i).2, fun j hj => ?_⟩
    rw [(cols_tool0 a1 a2).1 hj, a3, hl0]
    exact Int.le_refl _
/-- what is left of a column -/
theorem take1_tp {z : Int} {s : Ml} {c : Nat} (hc : c < s.T.length) (i : Nat) : tp (take1 z s c).T i = if c = i then min (tp s.T i) z else tp s.T i := by
  unfold take1
  by_cases h : tp s.T c > z
  · rw [if_pos h]
    show tp (s.T.set c z) i = _
    rw [tp_set hc]
    by_cases e : c = i
    · subst e; rw [if_pos rfl, if_pos rfl]; omega
    · rw [if_neg e, if_neg e]
  · rw [if_neg h]
    by_cases e : c = i
    · subst e; rw [if_pos rfl]; omega
    · rw [if_neg e]
theorem take1_len {z : Int} {s : Ml} {c : Nat} : (take1 z s c).T.length = s.T.length := by
  unfold take1
  split
  · simp
  · rfl
theorem takeC_tp {z : Int} : ∀ (cs : List Nat) (s : Ml), (∀ c ∈ cs, c < s.T.length) → ∀ i, tp (takeC z s cs).T i = if i ∈ cs then min (tp s.T i) z else tp s.T i := by
  intro cs
  induction cs with
  | nil => intro s _ i; simp [takeC]
  | cons c cs ih =>
    intro s h i
    show tp (takeC z (take1 z s c) cs).T i = _
    rw [ih (take1 z s c) (fun d hd => by rw [take1_len]; exact h d (by simp [hd])) i, take1_tp (h c (by simp)) i]
    by_cases e : c = i
    · subst e
      by_cases h2 : c ∈ cs <;> simp [h2]
    · have e' : ¬ i = c := fun h => e h.symm
      simp [e, e']
/-- a place leaves no column below a bound that no lowest place is below -/
theorem placeC_low {P : List Int} {cs : List Nat} {z : Int} {fast : Bool} {s : Ml} {F : Nat → Int} (hc : ∀ c ∈ cs, c < s.T.length) (hF : ∀ c ∈ cs, F c ≤ hi P cs) (hs : ∀ i, F i ≤ tp s.T i) (i : Nat) : F i ≤ tp (placeC P cs z fast s).2.T i := by
  unfold placeC
  split
  · exact hs i
  · rename_i hz
    split
    · split
      · exact hs i
      · rw [takeC_tp cs s hc i]
        split
        · rename_i hm
          have := hF i hm
          have := hs i
          omega
        · exact hs i
    · split
      · exact hs i
      · exact hs i
/-- a bound that no move goes below -/
def Bnd (P : List Int) (W H r : Nat) (F : Nat → Int) : Prop := ∀ j, j < W * H → ∀ c ∈ cols W H r (j % W) (j / W), F c ≤ hi P (cols W H r (j % W) (j / W))
theorem Bnd.at {P : List Int} {W H r : Nat} {F : Nat → Int} (h : Bnd P W H r F) {x y : Nat} (hx : x < W) (hy : y < H) : ∀ c ∈ cols W H r x y, F c ≤ hi P (cols W H r x y) := by
  have h1 := h (y * W + x) (by
    have : (y + 1) * W ≤ H * W := Nat.mul_le_mul_right W hy
    rw [Nat.add_mul, Nat.one_mul, Nat.mul_comm H W] at this
    omega)
  rw [(yx hx y).1, (yx hx y).2] at h1
  exact h1
theorem walkC_low {n : Nat} {P : List Int} {W H r : Nat} {fast : Bool} {fx fy fz tx ty tz : Int} {s : Ml} {F : Nat → Int} (hr : r ≤ 3) (hn : n = W * H) (hO : MOk n s) (hB : Bnd P W H r F) (hstr : str fx fy fz tx ty tz) (hf : inR W H fx fy fz) (ht : inR W H tx ty tz) (hs : ∀ i, F i ≤ tp s.T i) :
    ∀ k, k ≤ max (stN fx fy fz tx ty tz) 1 → ∀ i, F i ≤ tp (walkC P W H r fast fx fy fz tx ty tz s k).2.T i := by
  intro k
  induction k with
  | zero => intro _ i; exact hs i
  | succ k ih =>
    intro hk i
    have ih' := ih (by omega)
    rw [walkC]
    split
    · exact ih' i
    · have hx := (nth_lo hstr hk (by omega) (lo := 0) (hi' := (W : Int) - 1)).1 hf.1 ht.1
      have hy := (nth_lo hstr hk (by omega) (lo := 0) (hi' := (H : Int) - 1)).2.1 hf.2.1 ht.2.1
      have hx' : (nth fx tx (k + 1)).toNat < W := by omega
      have hy' : (nth fy ty (k + 1)).toNat < H := by omega
      have hok := (walkC_ok (P := P) (W := W) (H := H) (r := r) (fast := fast) hr (by omega) hn hO (fun j j1 j2 => ((nth_lo hstr j2 j1 (lo := 0) (hi' := 24)).2.2 hf.2.2 ht.2.2).1) k (by omega)).1
      exact placeC_low (fun c hc => by rw [hok.len, hn]; exact cols_lt hr (by omega) hc) (hB.at hx' hy') ih' i
theorem mlK_low {n : Nat} {P S : List Int} {W H r : Nat} {ms : List Mve} {F : Nat → Int} (hr : r ≤ 3) (hW1 : 1 ≤ W) (hW : W ≤ 24) (hH1 : 1 ≤ H) (hH : H ≤ 24) (hn : n = W * H) (hS : S.length = n) (hSt : ∀ i, 0 ≤ tp S i ∧ tp S i ≤ 24) (hB : Bnd P W H r F) (hF : ∀ i, F i ≤ tp S i) :
    ∀ k, mlGo P W H r S ms k → ∀ i, F i ≤ tp (mlK P W H r S ms k).2.T i := by
  intro k
  induction k with
  | zero => intro _ i; exact hF i
  | succ k ih =>
    intro hg i
    have h0 := ih (fun j hj => hg j (by omega))
    have ok := mlK_ok (ms := ms) hr hW1 hW hH1 hH hn hS hSt k (fun j hj => hg j (by omega))
    have hc := hg k (by omega)
    unfold mlC at hc
    rw [mlK]
    cases hm : ms[k]? with
    | none => exact h0 i
    | some m =>
      rw [hm] at hc
      simp only at hc ⊢
      obtain ⟨hw, _⟩ := mvCd_zero hc
      obtain ⟨h1, h2⟩ := wyC_zero hw
      exact walkC_low hr hn ok.ok hB h2 ok.at' h1 h0 _ (Nat.le_refl _) i
/-- the floor, or the stock where it is lower, is such a bound -/
theorem fl_bnd {P S : List Int} {W H r : Nat} (hr : r ≤ 3) : Bnd P W H r (fun i => min (tp (flL W H r P) i) (tp S i)) := by
  intro j hj c hc
  have := fl_le (T := P) hr (cols_lt hr (pos_of hj) hc) hj hc
  show min _ _ ≤ _
  omega
theorem rsum_zero {A : List Int} : ∀ n, rsum A A n = 0 := by
  intro n
  induction n with
  | zero => rfl
  | succ n ih => simp only [rsum, ih]; omega
end Go.Proofs.Ytjhldjojkaphkaa

namespace Go.Proofs.Ytjhldjojkaphkaa
open Go.ChangeShapes Go.WideShapes Go.ChangeAt Go.RowKit
set_option linter.unusedVariables false
set_option linter.unusedSimpArgs false

theorem cnd_z {W H s : Nat} {L : List Int} (hL : ∀ i, 0 ≤ tp L i ∧ tp L i ≤ 24) {c : Nat} {p : Nat × Nat × Int} (h : cnd W H s L c = some p) : 0 ≤ p.2.2 ∧ p.2.2 ≤ 24 := by
  unfold cnd at h
  split at h
  · unfold cn1 at h
    split at h
    · simp only [Option.some.injEq] at h
      subst h
      exact lvl_bd _ _
    · cases h
  · unfold cn2 at h
    split at h
    · cases h
    · simp only [Option.some.injEq] at h
      subst h
      exact hL _
theorem zrun_ok {W H r s n : Nat} {A L : List Int} (hA : A.length = n ∧ ∀ i, 0 ≤ tp A i ∧ tp A i ≤ 24) (hL : ∀ i, 0 ≤ tp L i ∧ tp L i ≤ 24) : ∀ c, ((zrun W H r s A L c).T.length = n ∧ ∀ i, 0 ≤ tp (zrun W H r s A L c).T i ∧ tp (zrun W H r s A L c).T i ≤ 24) ∧ 1 + 4 * (zrun W H r s A L c).ps.length ≤ 2004
  | 0 => ⟨hA, by simp [zrun]⟩
  | c + 1 => by
    obtain ⟨h1, h2⟩ := zrun_ok (W := W) (H := H) (r := r) (s := s) hA hL c
    rw [zrun]
    cases h : cnd W H s L c with
    | none => exact ⟨h1, h2⟩
    | some p => exact ⟨zst_ok (cnd_z hL h).1 h1, zst_few h2⟩
theorem zr1 {W H r s : Nat} {A L : List Int} {a y i x : Nat} (ha : a < lvn s) (hy : y < H) (hi : i < W) (hx : x = if y % 2 = 1 then W - 1 - i else i) :
    zrun W H r s A L (a * (W * H) + (y * W + (i + 1))) = if tp L (y * W + x) ≤ lvl s a then zst W H r (zrun W H r s A L (a * (W * H) + (y * W + i))) (x, y, lvl s a) else zrun W H r s A L (a * (W * H) + (y * W + i)) := by
  have e1 : a * (W * H) + (y * W + (i + 1)) = (a * (W * H) + (y * W + i)) + 1 := by omega
  obtain ⟨e2, e3⟩ := yx hi y
  rw [e1, zrun, cnd_1 L ha (ix_lt hi hy)]
  unfold cn1
  have e4 : tfx W (y * W + i) = x := by unfold tfx; rw [e2, e3, hx]
  rw [e3, e4]
  split <;> rfl
theorem zr2 {W H r s : Nat} {A L : List Int} {y x : Nat} (hy : y < H) (hx : x < W) :
    zrun W H r s A L (lvn s * (W * H) + (y * W + (x + 1))) = if islv s (tp L (y * W + x)) then zrun W H r s A L (lvn s * (W * H) + (y * W + x)) else zst W H r (zrun W H r s A L (lvn s * (W * H) + (y * W + x))) (x, y, tp L (y * W + x)) := by
  have e1 : lvn s * (W * H) + (y * W + (x + 1)) = (lvn s * (W * H) + (y * W + x)) + 1 := by omega
  obtain ⟨e2, e3⟩ := yx hx y
  rw [e1, zrun, cnd_2 L]
  unfold cn2
  rw [e2, e3]
  split <;> rfl
theorem lvls_get {s k : Nat} (h : k < lvn s) : (lvls s)[k]? = some (lvl s k) := by simp [lvls, h]
theorem islv_any (s : Nat) (z : Int) : islv s z = (lvls s).any fun l => l == z := by
  unfold islv lvls
  rw [List.any_map]
  rfl
theorem any_takeI (f : Int → Bool) {cs : List Int} {i : Nat} {c : Int} (h : cs[i]? = some c) : (cs.take (i + 1)).any f = ((cs.take i).any f || f c) := by
  rw [List.take_add_one, h]
  simp
/-- what a call leaves as it was -/
structure Zk (B gl : Nat) (V X : World) : Prop where
  bel : Below B V X
  lv : X.heap[gl]? = V.heap[gl]?
theorem Zk.refl (B gl : Nat) (V : World) : Zk B gl V V := ⟨Below.refl _ _, rfl⟩
theorem Zk.step {B gl : Nat} {V X Y : World} (h : Zk B gl V X) (hb : Below B X Y) (hl : Y.heap[gl]? = X.heap[gl]?) : Zk B gl V Y := ⟨h.bel.trans hb, hl.trans h.lv⟩
theorem Zk.drew {B gl : Nat} {V X : World} (h : Zk B gl V X) : Zk B gl V X.drew := ⟨h.bel.drew, h.lv⟩
theorem Zk.dn {B gl : Nat} {V X : World} (h : Zk B gl V X) (n : Nat) : Zk B gl V (X.drewN n) := ⟨⟨h.bel.os, h.bel.tape, h.bel.output, h.bel.size, h.bel.block⟩, h.lv⟩
end Go.Proofs.Ytjhldjojkaphkaa

namespace Go.Proofs.Ytjhldjojkaphkaa
set_option linter.unusedVariables false
set_option linter.unusedSimpArgs false

theorem placeC_idle {P : List Int} {cs : List Nat} {z : Int} {s : Ml} (h1 : hi P cs ≤ z) (h2 : hi s.T cs ≤ z) : placeC P cs z true s = (0, s) := by
  unfold placeC
  rw [if_neg (by omega), if_neg (by omega), if_pos rfl]
theorem walk_idle {P : List Int} {W H r : Nat} {fx fy fz tx ty tz : Int} {s : Ml} : ∀ k, (∀ j, 1 ≤ j → j ≤ k → hi P (cols W H r (nth fx tx j).toNat (nth fy ty j).toNat) ≤ nth fz tz j ∧ hi s.T (cols W H r (nth fx tx j).toNat (nth fy ty j).toNat) ≤ nth fz tz j) → walkC P W H r true fx fy fz tx ty tz s k = (0, s)
  | 0, _ => rfl
  | k + 1, h => by
    rw [walkC, walk_idle k (fun j h1 h2 => h j h1 (by omega)), if_neg (by simp)]
    exact placeC_idle (h (k + 1) (by omega) (Nat.le_refl _)).1 (h (k + 1) (by omega) (Nat.le_refl _)).2
theorem hi_top {T : List Int} {cs : List Nat} (h : ∀ i, tp T i ≤ 24) : hi T cs ≤ 24 := hi_le.2 ⟨by omega, fun i _ => h i⟩
/-- down at a place -/
theorem walk_down {P : List Int} {W H r n : Nat} {x y : Nat} {z : Int} {s : Ml} (hr : r ≤ 3) (hn : n = W * H) (hH : 0 < H) (hz0 : 0 ≤ z) (hz1 : z ≤ 24) (hP : hi P (cols W H r x y) ≤ z) (hl : s.T.length = n) (hs : ∀ i, tp s.T i ≤ 24) :
    ∀ k, k ≤ max (stN x y 24 x y z) 1 → (walkC P W H r false x y 24 x y z s k).1 = 0 ∧ (walkC P W H r false x y 24 x y z s k).2.T.length = n ∧ ∀ i, tp (walkC P W H r false x y 24 x y z s k).2.T i = if i ∈ cols W H r x y then min (tp s.T i) (nth 24 z k) else tp s.T i
  | 0, _ => by
    refine ⟨rfl, hl, fun i => ?_⟩
    rw [nth_zero]
    show tp s.T i = _
    have := hs i
    split <;> omega
  | k + 1, hk => by
    obtain ⟨h1, h2, h3⟩ := walk_down hr hn hH hz0 hz1 hP hl hs k (by omega)
    rw [walkC, if_neg (by rw [h1]; simp)]
    have ex : (nth (x : Int) x (k + 1)).toNat = x := by rw [nth_still]; simp
    have ey : (nth (y : Int) y (k + 1)).toNat = y := by rw [nth_still]; simp
    rw [ex, ey]
    generalize (walkC P W H r false x y 24 x y z s k).2 = s1 at *
    have hzz : z ≤ nth 24 z (k + 1) ∧ nth 24 z (k + 1) ≤ nth 24 z k := by
      unfold nth
      unfold stN at hk
      simp only [Int.sub_self, Int.natAbs_zero, Nat.zero_add] at hk
      by_cases e : z = 24
      · subst e; simp
      · rw [if_neg (by omega), if_pos (by omega), if_neg (by omega), if_pos (by omega)]
        omega
    obtain ⟨zz, hzze⟩ : ∃ zz, nth 24 z (k + 1) = zz := ⟨_, rfl⟩
    obtain ⟨zk, hzke⟩ : ∃ zk, nth 24 z k = zk := ⟨_, rfl⟩
    rw [hzze, hzke] at hzz
    rw [hzke] at h3
    rw [hzze]
    have hcl : ∀ c ∈ cols W H r x y, c < s1.T.length := fun c hc => by rw [h2, hn]; exact cols_lt hr hH hc
    unfold placeC
    rw [if_neg (by omega)]
    by_cases ht : zz < hi s1.T (cols W H r x y)
    · rw [if_pos ht]
      rw [if_neg (by simp)]
      refine ⟨rfl, ?_, fun i => ?_⟩
      · show (takeC zz s1 _).T.length = n
        rw [takeC_T, mins_len, h2]
      · show tp (takeC zz s1 _).T i = _
        rw [takeC_tp _ _ hcl, h3 i]
        split
        · omega
        · rfl
    · rw [if_neg ht, if_neg (by simp)]
      refine ⟨rfl, h2, fun i => ?_⟩
      show tp s1.T i = _
      rw [h3 i]
      split
      · rename_i hm
        have h4 : tp s1.T i ≤ zz := (hi_le.1 (by omega : hi s1.T (cols W H r x y) ≤ zz)).2 i hm
        rw [h3 i, if_pos hm] at h4
        omega
      · rfl
theorem wyC_ok {W H fx fy fz tx ty tz : Int} (h1 : inR W H tx ty tz) (h2 : str fx fy fz tx ty tz) : wyC W H fx fy fz tx ty tz = 0 := by
  unfold wyC
  rw [if_neg (by simp [h1]), if_neg (by have := chg_str.2 h2; omega)]
theorem mins_tp {T : List Int} {cs : List Nat} {z : Int} (hc : ∀ c ∈ cs, c < T.length) (i : Nat) : tp (mins T cs z) i = if i ∈ cs then min (tp T i) z else tp T i := by
  have h := takeC_tp (z := z) cs ⟨T, 0, 0, 0⟩ hc i
  rw [takeC_T] at h
  exact h
/-- what the places leave -/
def tkf (W H r : Nat) (S : List Int) (ps : List (Nat × Nat × Int)) : List Int := ps.foldl (fun T p => mins T (cols W H r p.1 p.2.1) p.2.2) S
theorem tkf_snoc (W H r : Nat) (S : List Int) (ps : List (Nat × Nat × Int)) (p : Nat × Nat × Int) : tkf W H r S (ps ++ [p]) = mins (tkf W H r S ps) (cols W H r p.1 p.2.1) p.2.2 := by simp [tkf]
theorem tkf_ok {W H r n : Nat} {S : List Int} {ps : List (Nat × Nat × Int)} (hl : S.length = n) (hS : ∀ i, 0 ≤ tp S i ∧ tp S i ≤ 24) (hp : ∀ p ∈ ps, 0 ≤ p.2.2) : (tkf W H r S ps).length = n ∧ ∀ i, 0 ≤ tp (tkf W H r S ps) i ∧ tp (tkf W H r S ps) i ≤ 24 := by
  induction ps generalizing S with
  | nil => exact ⟨hl, hS⟩
  | cons p ps ih =>
    have h := mins_keep (cs := cols W H r p.1 p.2.1) (hp p (by simp)) hl hS
    exact ih h.1 h.2 (fun q hq => hp q (by simp [hq]))
theorem zmv_at (ps : List (Nat × Nat × Int)) {k x y : Nat} {z : Int} (h : ps[k]? = some (x, y, z)) (j : Nat) (hj : j < 4) : ∀ n, k < n → (zmv ps n)[1 + 4 * k + j]? = (mvs4 (x : Int) (zoy ps k) (y : Int) z)[j]?
  | 0, hn => by omega
  | n + 1, hn => by
    rw [zmv]
    by_cases e : k = n
    · subst e
      rw [List.getElem?_append_right (by rw [zmv_len]; omega), zmv_len, getD_of h, show 1 + 4 * k + j - (1 + 4 * k) = j by omega]
    · rw [List.getElem?_append_left (by rw [zmv_len]; omega)]
      exact zmv_at ps h j hj n (by omega)
def zox (ps : List (Nat × Nat × Int)) : Nat → Int
  | 0 => 0
  | k + 1 => ((ps.getD k (0, 0, 0)).1 : Int)
/-- right places: in the field, and no lower than the tool can stand -/
def PlOk (W H r : Nat) (P : List Int) (p : Nat × Nat × Int) : Prop := p.1 < W ∧ p.2.1 < H ∧ 0 ≤ p.2.2 ∧ p.2.2 ≤ 24 ∧ hi P (cols W H r p.1 p.2.1) ≤ p.2.2
theorem zz_run {P S : List Int} {W H r n : Nat} {ps : List (Nat × Nat × Int)} (hr : r ≤ 3) (hW1 : 1 ≤ W) (hH1 : 1 ≤ H) (hn : n = W * H) (hS : S.length = n) (hSt : ∀ i, 0 ≤ tp S i ∧ tp S i ≤ 24) (hPt : ∀ i, 0 ≤ tp P i ∧ tp P i ≤ 24) (hps : ∀ p ∈ ps, PlOk W H r P p) :
    ∀ k, k ≤ ps.length → mlGo P W H r S (zmv ps ps.length) (1 + 4 * k) ∧ ∃ s, mlK P W H r S (zmv ps ps.length) (1 + 4 * k) = ((zox ps k, zoy ps k, 24), s) ∧ s.T = tkf W H r S (ps.take k) ∧ (0 ≤ zox ps k ∧ zox ps k ≤ (W : Int) - 1) ∧ (0 ≤ zoy ps k ∧ zoy ps k ≤ (H : Int) - 1)
  | 0, _ => by
    have h0 : (zmv ps ps.length)[0]? = some ⟨true, 0, 0, 24⟩ := by
      have : ∀ n, (zmv ps n)[0]? = some ⟨true, 0, 0, 24⟩ := by
        intro n
        induction n with
        | zero => rfl
        | succ n ih => rw [zmv, List.getElem?_append_left (by rw [zmv_len]; omega)]; exact ih
      exact this _
    have he : mlK P W H r S (zmv ps ps.length) 0 = ((0, 0, 24), ⟨S, 0, 0, 0⟩) := rfl
    have hw : wyC W H 0 0 24 0 0 24 = 0 := wyC_ok ⟨by omega, by omega, by omega⟩ (.inl ⟨rfl, rfl⟩)
    have hk := walk_idle (P := P) (W := W) (H := H) (r := r) (fx := 0) (fy := 0) (fz := 24) (tx := 0) (ty := 0) (tz := 24) (s := ⟨S, 0, 0, 0⟩) (max (stN 0 0 24 0 0 24) 1) (fun j _ _ => by
      rw [nth_still, nth_still]
      exact ⟨hi_top (fun i => (hPt i).2), hi_top (fun i => (hSt i).2)⟩)
    refine ⟨?_, ⟨S, 0, 0, 0⟩, ?_, rfl, ?_⟩
    · intro j hj
      obtain rfl : j = 0 := by omega
      rw [mlC_at h0 he]
      unfold mvCd
      rw [hw]
      simp only [ne_eq, not_true_eq_false, if_false]
      rw [hk]
    · rw [mlK_succ h0 he]
      simp only
      rw [hk]
      rfl
    · show (0 ≤ (0 : Int) ∧ (0 : Int) ≤ _) ∧ (0 ≤ (0 : Int) ∧ (0 : Int) ≤ _)
      omega
  | k + 1, hk => by
    obtain ⟨hg, s, he, hT, hx0, hy0⟩ := zz_run hr hW1 hH1 hn hS hSt hPt hps k (by omega)
    obtain ⟨⟨x, y, z⟩, hp⟩ : ∃ p, ps[k]? = some p := ⟨_, List.getElem?_eq_getElem (by omega)⟩
    obtain ⟨hxW, hyH, hz0, hz1, hlow⟩ := hps _ (List.mem_of_getElem? hp)
    simp only at hxW hyH hz0 hz1 hlow
    have hok := tkf_ok (W := W) (H := H) (r := r) (ps := ps.take k) hS hSt (fun p hp => (hps p (List.mem_of_mem_take hp)).2.2.1)
    rw [← hT] at hok
    have m0 := zmv_at ps hp 0 (by omega) ps.length (by omega)
    have m1 := zmv_at ps hp 1 (by omega) ps.length (by omega)
    have m2 := zmv_at ps hp 2 (by omega) ps.length (by omega)
    have m3 := zmv_at ps hp 3 (by omega) ps.length (by omega)
    obtain ⟨ms, hms⟩ : ∃ ms, zmv ps ps.length = ms := ⟨_, rfl⟩
    have hzo : zox ps (k + 1) = (x : Int) ∧ zoy ps (k + 1) = (y : Int) := by
      constructor
      · rw [zox, getD_of hp]
      · rw [zoy, getD_of hp]
    have htk : tkf W H r S (ps.take (k + 1)) = mins s.T (cols W H r x y) z := by
      rw [List.take_add_one, hp]
      show tkf W H r S (ps.take k ++ [(x, y, z)]) = _
      rw [tkf_snoc, hT]
    rw [hms] at m0 m1 m2 m3 hg he ⊢
    obtain ⟨ox, hox⟩ : ∃ ox, zox ps k = ox := ⟨_, rfl⟩
    obtain ⟨oy, hoy⟩ : ∃ oy, zoy ps k = oy := ⟨_, rfl⟩
    rw [hox] at he hx0
    rw [hoy] at he hy0 m0 m1 m2 m3
    rw [hzo.1, hzo.2, htk]
    clear hzo htk hms hT hox hoy
    have a0 : ms[1 + 4 * k]? = some ⟨true, (x : Int), oy, 24⟩ := m0
    have a1 : ms[1 + 4 * k + 1]? = some ⟨true, (x : Int), (y : Int), 24⟩ := m1
    have a2 : ms[1 + 4 * k + 1 + 1]? = some ⟨false, (x : Int), (y : Int), z⟩ := m2
    have a3 : ms[1 + 4 * k + 1 + 1 + 1]? = some ⟨true, (x : Int), (y : Int), 24⟩ := m3
    have hcl : ∀ c ∈ cols W H r x y, c < s.T.length := fun c hc => by rw [hok.1, hn]; exact cols_lt hr (by omega) hc
    -- along X
    have w0 : wyC W H ox oy 24 x oy 24 = 0 := wyC_ok ⟨by omega, by omega, by omega⟩ (.inr (.inr ⟨rfl, rfl⟩))
    have k0 := walk_idle (P := P) (W := W) (H := H) (r := r) (fx := ox) (fy := oy) (fz := 24) (tx := x) (ty := oy) (tz := 24) (s := s) (max (stN ox oy 24 x oy 24) 1) (fun j _ _ => by
      rw [show nth 24 24 j = 24 from nth_still j]
      exact ⟨hi_top (fun i => (hPt i).2), hi_top (fun i => (hok.2 i).2)⟩)
    have e1 : mlK P W H r S ms (1 + 4 * k + 1) = (((x : Int), oy, 24), s) := by
      rw [mlK_succ a0 he]
      simp only
      rw [k0]
    have c0 : mlC P W H r S ms (1 + 4 * k) = 0 := by
      rw [mlC_at a0 he]
      unfold mvCd
      simp only [w0, ne_eq, not_true_eq_false, if_false]
      rw [k0]
    -- along Y
    have w1 : wyC W H x oy 24 x y 24 = 0 := wyC_ok ⟨by omega, by omega, by omega⟩ (.inr (.inl ⟨rfl, rfl⟩))
    have k1 := walk_idle (P := P) (W := W) (H := H) (r := r) (fx := x) (fy := oy) (fz := 24) (tx := x) (ty := y) (tz := 24) (s := s) (max (stN x oy 24 x y 24) 1) (fun j _ _ => by
      rw [show nth 24 24 j = 24 from nth_still j]
      exact ⟨hi_top (fun i => (hPt i).2), hi_top (fun i => (hok.2 i).2)⟩)
    have e2 : mlK P W H r S ms (1 + 4 * k + 1 + 1) = (((x : Int), (y : Int), 24), s) := by
      rw [mlK_succ a1 e1]
      simp only
      rw [k1]
    have c1 : mlC P W H r S ms (1 + 4 * k + 1) = 0 := by
      rw [mlC_at a1 e1]
      unfold mvCd
      simp only [w1, ne_eq, not_true_eq_false, if_false]
      rw [k1]
    -- down
    have w2 : wyC W H x y 24 x y z = 0 := wyC_ok ⟨by omega, by omega, by omega⟩ (.inl ⟨rfl, rfl⟩)
    obtain ⟨d1, d2, d3⟩ := walk_down (P := P) (W := W) (H := H) (r := r) (n := n) (x := x) (y := y) (z := z) (s := s) hr hn (by omega) hz0 hz1 hlow hok.1 (fun i => (hok.2 i).2) (max (stN x y 24 x y z) 1) (Nat.le_refl _)
    have hend : nth 24 z (max (stN x y 24 x y z) 1) = z := by
      unfold nth stN
      simp only [Int.sub_self, Int.natAbs_zero, Nat.zero_add]
      by_cases e : z = 24
      · subst e; simp
      · rw [if_neg (by omega), if_pos (by omega)]
        omega
    rw [hend] at d3
    obtain ⟨s2, hs2⟩ : ∃ s2, (walkC P W H r false x y 24 x y z s (max (stN x y 24 x y z) 1)).2 = s2 := ⟨_, rfl⟩
    rw [hs2] at d2 d3
    have e3 : mlK P W H r S ms (1 + 4 * k + 1 + 1 + 1) = (((x : Int), (y : Int), z), s2) := by
      rw [mlK_succ a2 e2]
      simp only
      rw [hs2]
    have c2 : mlC P W H r S ms (1 + 4 * k + 1 + 1) = 0 := by
      rw [mlC_at a2 e2]
      unfold mvCd
      simp only [w2, ne_eq, not_true_eq_false, if_false]
      exact d1
    have hT2 : s2.T = mins s.T (cols W H r x y) z := by
      refine list_ext (by rw [d2, mins_len, hok.1]) (fun i _ => ?_)
      rw [d3 i, mins_tp hcl i]
    have hh2 : hi s2.T (cols W H r x y) ≤ z := hi_le.2 ⟨hz0, fun i hi => by rw [d3 i, if_pos hi]; omega⟩
    -- up
    have w3 : wyC W H x y z x y 24 = 0 := wyC_ok ⟨by omega, by omega, by omega⟩ (.inl ⟨rfl, rfl⟩)
    have k3 := walk_idle (P := P) (W := W) (H := H) (r := r) (fx := x) (fy := y) (fz := z) (tx := x) (ty := y) (tz := 24) (s := s2) (max (stN x y z x y 24) 1) (fun j hj1 hj2 => by
      have ex : (nth (x : Int) x j).toNat = x := by rw [nth_still]; simp
      have ey : (nth (y : Int) y j).toNat = y := by rw [nth_still]; simp
      rw [ex, ey]
      have hzj : z ≤ nth z 24 j := by
        unfold nth
        split
        · omega
        · rw [if_neg (by omega)]; omega
      omega)
    have e4 : mlK P W H r S ms (1 + 4 * k + 1 + 1 + 1 + 1) = (((x : Int), (y : Int), 24), s2) := by
      rw [mlK_succ a3 e3]
      simp only
      rw [k3]
    have c3 : mlC P W H r S ms (1 + 4 * k + 1 + 1 + 1) = 0 := by
      rw [mlC_at a3 e3]
      unfold mvCd
      simp only [w3, ne_eq, not_true_eq_false, if_false]
      rw [k3]
    refine ⟨?_, s2, ?_, hT2, by omega, by omega⟩
    · exact mlGo_succ (mlGo_succ (mlGo_succ (mlGo_succ hg c0) c1) c2) c3
    · exact e4
end Go.Proofs.Ytjhldjojkaphkaa

namespace Go.Proofs.Ytjhldjojkaphkaa
set_option linter.unusedVariables false
set_option linter.unusedSimpArgs false

theorem cnd_low {W H r s : Nat} {P : List Int} (hW : 0 < W) {c : Nat} {p : Nat × Nat × Int} (hc : c < cnC W H s) (h : cnd W H s (lowL W H r P) c = some p) (hPt : ∀ i, 0 ≤ tp P i ∧ tp P i ≤ 24) : PlOk W H r P p := by
  have hL : ∀ i, 0 ≤ tp (lowL W H r P) i ∧ tp (lowL W H r P) i ≤ 24 := by
    intro i
    by_cases h : i < W * H
    · rw [low_tp h]
      exact ⟨hi_nn _ _, hi_top (fun j => (hPt j).2)⟩
    · have : tp (lowL W H r P) i = 0 := by
        unfold tp
        rw [List.getD_eq_getElem?_getD, List.getElem?_eq_none (by unfold lowL; rw [byL_len]; omega)]
        rfl
      rw [this]
      omega
  have hm : p ∈ plcs W H s (lowL W H r P) := List.mem_filterMap.2 ⟨c, List.mem_range.2 hc, h⟩
  obtain ⟨h1, h2, h3, h4⟩ := plcs_ok hW hL p hm
  refine ⟨h1, h2, h3, h4, ?_⟩
  have key : tp (lowL W H r P) (p.2.1 * W + p.1) ≤ p.2.2 := by
    unfold cnd at h
    split at h
    · unfold cn1 at h
      split at h
      · rename_i hle
        simp only [Option.some.injEq] at h
        subst h
        exact hle
      · cases h
    · unfold cn2 at h
      split at h
      · cases h
      · simp only [Option.some.injEq] at h
        subst h
        show tp _ (_ / W * W + _ % W) ≤ _
        rw [Nat.mul_comm, Nat.div_add_mod]
        exact Int.le_refl _
  rw [low_tp (ix_lt h1 h2), (yx h1 _).1, (yx h1 _).2] at key
  exact key
theorem tkd_mem {W H r : Nat} {s : Ml} {ps : List (Nat × Nat × Int)} {c : Nat} {p : Nat × Nat × Int} (h : tkd W H r s ps c = some p) : ps[c]? = some p := by
  unfold tkd at h
  split at h
  · cases h
  · rename_i q hq
    split at h
    · cases h; exact hq
    · cases h
theorem zzL_ok {W H r s : Nat} {S P : List Int} (hW : 0 < W) (hPt : ∀ i, 0 ≤ tp P i ∧ tp P i ≤ 24) : ∀ p ∈ zzL W H r s S (lowL W H r P), PlOk W H r P p := by
  intro p hp
  obtain ⟨c, _, he⟩ := List.mem_filterMap.1 hp
  have h2 := List.mem_of_getElem? (tkd_mem he)
  obtain ⟨d, hd, he2⟩ := List.mem_filterMap.1 h2
  exact cnd_low hW (List.mem_range.1 hd) he2 hPt
/-- what is left, place by place -/
theorem tkf_lfS {W H r : Nat} {S : List Int} (ps : List (Nat × Nat × Int)) : ∀ c, c ≤ ps.length → tkf W H r S (lsq (tkd W H r ⟨S, 0, 0, 0⟩ ps) c) = (lfS W H r ⟨S, 0, 0, 0⟩ ps c).T
  | 0, _ => rfl
  | c + 1, hc => by
    have ih := tkf_lfS (W := W) (H := H) (r := r) (S := S) ps c (by omega)
    have hp : ps[c]? = some ps[c] := List.getElem?_eq_getElem (by omega)
    by_cases hb : tkb W H r (lfS W H r ⟨S, 0, 0, 0⟩ ps c) ps[c] = true
    · obtain ⟨e1, e2⟩ := tkd_yes hp hb
      rw [lsq_succ_some e1, tkf_snoc, ih, e2, takeC_T]
    · obtain ⟨e1, e2⟩ := tkd_no hp (Bool.eq_false_iff.2 hb)
      rw [lsq_succ_none e1, ih, e2]
theorem lfS_len {W H r n : Nat} {S : List Int} {ps : List (Nat × Nat × Int)} (hS : S.length = n) : ∀ c, c ≤ ps.length → (lfS W H r ⟨S, 0, 0, 0⟩ ps c).T.length = n
  | 0, _ => hS
  | c + 1, hc => by
    have ih := lfS_len (W := W) (H := H) (r := r) (ps := ps) hS c (by omega)
    have hp : ps[c]? = some ps[c] := List.getElem?_eq_getElem (by omega)
    rw [lfS_succ hp]
    unfold tkn
    split
    · rw [takeC_T, mins_len, ih]
    · exact ih
theorem lfS_step {W H r n : Nat} {S : List Int} {ps : List (Nat × Nat × Int)} (hr : r ≤ 3) (hH : 0 < H) (hn : n = W * H) (hS : S.length = n) {c : Nat} {p : Nat × Nat × Int} (hp : ps[c]? = some p) (i : Nat) :
    tp (lfS W H r ⟨S, 0, 0, 0⟩ ps (c + 1)).T i = if i ∈ cols W H r p.1 p.2.1 then min (tp (lfS W H r ⟨S, 0, 0, 0⟩ ps c).T i) p.2.2 else tp (lfS W H r ⟨S, 0, 0, 0⟩ ps c).T i := by
  have hc : c < ps.length := (List.getElem?_eq_some_iff.1 hp).1
  have hl := lfS_len (W := W) (H := H) (r := r) (ps := ps) hS c (by omega)
  rw [lfS_succ hp]
  generalize lfS W H r ⟨S, 0, 0, 0⟩ ps c = s at *
  have hcl : ∀ c ∈ cols W H r p.1 p.2.1, c < s.T.length := fun c hc => by rw [hl, hn]; exact cols_lt hr hH hc
  unfold tkn
  split
  · rw [takeC_tp _ _ hcl]
  · rename_i hb
    have hb' : hi s.T (cols W H r p.1 p.2.1) ≤ p.2.2 := by
      unfold tkb at hb
      simpa using hb
    split
    · rename_i hm
      have := (hi_le.1 hb').2 i hm
      omega
    · rfl
theorem lfS_mono {W H r n : Nat} {S : List Int} {ps : List (Nat × Nat × Int)} (hr : r ≤ 3) (hH : 0 < H) (hn : n = W * H) (hS : S.length = n) (i c : Nat) : ∀ d, c + d ≤ ps.length → tp (lfS W H r ⟨S, 0, 0, 0⟩ ps (c + d)).T i ≤ tp (lfS W H r ⟨S, 0, 0, 0⟩ ps c).T i
  | 0, _ => Int.le_refl _
  | d + 1, hd => by
    have ih := lfS_mono (W := W) (H := H) (r := r) (ps := ps) hr hH hn hS i c d (by omega)
    have hp : ps[c + d]? = some ps[c + d] := List.getElem?_eq_getElem (by omega)
    rw [show c + (d + 1) = c + d + 1 by omega, lfS_step hr hH hn hS hp i]
    split <;> omega
theorem lo_att {T : List Int} {cs : List Nat} {j : Nat} (hj : j ∈ cs) (hT : tp T j ≤ 24) : ∃ k ∈ cs, tp T k = lo T cs := by
  apply Classical.byContradiction
  intro h
  have hall : ∀ k ∈ cs, lo T cs + 1 ≤ tp T k := by
    intro k hk
    have h1 := lo_mem (T := T) hk
    have h2 : tp T k ≠ lo T cs := fun e => h ⟨k, hk, e⟩
    omega
  have h24 : lo T cs + 1 ≤ 24 := by have := hall j hj; omega
  have := lo_ge.2 ⟨h24, hall⟩
  omega
/-- each place has its turn at its lowest -/
theorem low_turn {W H r s : Nat} {P : List Int} (hs1 : 1 ≤ s) {j : Nat} (hj : j < W * H) : ∃ c : Nat, (plcs W H s (lowL W H r P))[c]? = some (j % W, j / W, tp (lowL W H r P) j) := by
  obtain ⟨a1, a2, a3⟩ := xy_of hj
  obtain ⟨L, hL⟩ : ∃ L, lowL W H r P = L := ⟨_, rfl⟩
  rw [hL]
  have hcand : ∃ c : Nat, c < cnC W H s ∧ cnd W H s L c = some (j % W, j / W, tp L j) := by
    cases hlv : islv s (tp L j) with
    | true =>
      unfold islv at hlv
      obtain ⟨a, ha, he⟩ := List.any_eq_true.1 hlv
      rw [List.mem_range] at ha
      have he' : lvl s a = tp L j := by simpa using he
      have hi' : (if j / W % 2 = 1 then W - 1 - j % W else j % W) < W := by split <;> omega
      have hb := ix_lt hi' a2
      refine ⟨a * (W * H) + (j / W * W + (if j / W % 2 = 1 then W - 1 - j % W else j % W)), ?_, ?_⟩
      · unfold cnC
        have : (a + 1) * (W * H) ≤ lvn s * (W * H) := Nat.mul_le_mul_right _ ha
        rw [Nat.add_mul, Nat.one_mul] at this
        omega
      · rw [cnd_1 L ha hb]
        unfold cn1
        rw [(yx hi' _).2]
        have ht : tfx W (j / W * W + (if j / W % 2 = 1 then W - 1 - j % W else j % W)) = j % W := by
          unfold tfx
          rw [(yx hi' _).1, (yx hi' _).2]
          split <;> omega
        rw [ht, a3, he', if_pos (Int.le_refl _)]
    | false =>
      refine ⟨lvn s * (W * H) + j, by unfold cnC; omega, ?_⟩
      rw [cnd_2 L]
      unfold cn2
      rw [hlv]
      rfl
  obtain ⟨c, hc, he⟩ := hcand
  exact ⟨cnq (cnd W H s L) c, (cnq_some hc he).1⟩
theorem zz_left {W H r s n : Nat} {S P : List Int} (hr : r ≤ 3) (hs1 : 1 ≤ s) (hW1 : 1 ≤ W) (hH1 : 1 ≤ H) (hn : n = W * H) (hS : S.length = n) (hPt : ∀ i, 0 ≤ tp P i ∧ tp P i ≤ 24) {i : Nat} (hi0 : i < n) :
    tp (tkf W H r S (zzL W H r s S (lowL W H r P))) i = min (tp S i) (tp (flL W H r P) i) := by
  have hle := tkf_lfS (W := W) (H := H) (r := r) (S := S) (plcs W H s (lowL W H r P)) _ (Nat.le_refl _)
  have hz : zzL W H r s S (lowL W H r P) = lsq (tkd W H r ⟨S, 0, 0, 0⟩ (plcs W H s (lowL W H r P))) (plcs W H s (lowL W H r P)).length := rfl
  rw [hz, hle]
  have hiW : i < W * H := by omega
  refine Int.le_antisymm ?_ ?_
  · have h1 := lfS_mono (W := W) (H := H) (r := r) (ps := plcs W H s (lowL W H r P)) hr (by omega) hn hS i 0 (plcs W H s (lowL W H r P)).length (by omega)
    rw [Nat.zero_add] at h1
    have h1' : tp (lfS W H r ⟨S, 0, 0, 0⟩ (plcs W H s (lowL W H r P)) (plcs W H s (lowL W H r P)).length).T i ≤ tp S i := h1
    obtain ⟨b1, b2, b3⟩ := xy_of hiW
    have hself : i ∈ cols W H r (i % W) (i / W) := by
      have := cols_self (r := r) hr b1 b2
      rwa [b3] at this
    obtain ⟨j, hj, he⟩ := lo_att (T := lowL W H r P) hself (by rw [low_tp hiW]; exact hi_top (fun k => (hPt k).2))
    have hjl := cols_lt hr (by omega) hj
    rw [fl_tp hiW, ← he]
    obtain ⟨c, hc⟩ := low_turn (W := W) (H := H) (r := r) (s := s) (P := P) hs1 hjl
    have hcl : c < (plcs W H s (lowL W H r P)).length := (List.getElem?_eq_some_iff.1 hc).1
    have h2 := lfS_step (W := W) (H := H) (r := r) (n := n) (S := S) hr (by omega) hn hS hc i
    rw [if_pos ((sym_of hr hiW hjl).2 hj)] at h2
    have h3 := lfS_mono (W := W) (H := H) (r := r) (ps := plcs W H s (lowL W H r P)) hr (by omega) hn hS i (c + 1) ((plcs W H s (lowL W H r P)).length - (c + 1)) (by omega)
    rw [show c + 1 + ((plcs W H s (lowL W H r P)).length - (c + 1)) = (plcs W H s (lowL W H r P)).length by omega, h2] at h3
    have h4 : tp (lfS W H r ⟨S, 0, 0, 0⟩ (plcs W H s (lowL W H r P)) (plcs W H s (lowL W H r P)).length).T i ≤ min (tp (lfS W H r ⟨S, 0, 0, 0⟩ (plcs W H s (lowL W H r P)) c).T i) (tp (lowL W H r P) j) := h3
    omega
  · have hall : ∀ c, c ≤ (plcs W H s (lowL W H r P)).length → min (tp S i) (tp (flL W H r P) i) ≤ tp (lfS W H r ⟨S, 0, 0, 0⟩ (plcs W H s (lowL W H r P)) c).T i := by
      intro c
      induction c with
      | zero => intro _; show _ ≤ tp S i; omega
      | succ c ih =>
        intro hc
        have ih' := ih (by omega)
        have hp : (plcs W H s (lowL W H r P))[c]? = some (plcs W H s (lowL W H r P))[c] := List.getElem?_eq_getElem (by omega)
        rw [lfS_step hr (by omega) hn hS hp i]
        split
        · rename_i hm
          obtain ⟨d, hd, he⟩ := List.mem_filterMap.1 (List.mem_of_getElem? hp)
          obtain ⟨p1, p2, p3, p4, p5⟩ := cnd_low (by omega) (List.mem_range.1 hd) he hPt
          have hx := ix_lt p1 p2
          have h1 := fl_le (T := P) hr hiW hx (by rw [(yx p1 _).1, (yx p1 _).2]; exact hm)
          rw [(yx p1 _).1, (yx p1 _).2] at h1
          omega
        · exact ih'
    exact hall _ (Nat.le_refl _)
end Go.Proofs.Ytjhldjojkaphkaa

namespace Go.Proofs.Ytjhldjojkaphkaa
open Go.ChangeShapes Go.WideShapes Go.ChangeAt Go.RowKit
set_option linter.unusedVariables false
set_option linter.unusedSimpArgs false

noncomputable def reg46 (id : Nat) : Go.Code := match Try.f46.body with | some c => (regOf id c).getD .skip | none => .skip
set_option maxHeartbeats 4000000 in
set_option maxRecDepth 100000 in
theorem af9 {s0 s1 s2 s3 s5 s6 s7 s8 s9 s10 s11 s12 s13 s16 s17 s18 s19 s20 s21 s22 s23 s24 s25 s26 s27 s28 s29 s30 s31 s32 s33 s34 s35 s36 s37 s38 s39 s40 s41 s42 s43 s44 s45 s46 s47 s48 s49 s50 s51 s52 s53 s54 s55 s56 s57 s58 s59 s60 s61 s62 s63 s64 s65 s66 s67 s68 s69 s70 s71 s72 s73 s74 : Value} {D : Nat} {hM nz : Int} {fast : Bool} {pv : Value} {V : World} {K_ : Act → World → Prop} (hlt : ¬ nz < hM)
    (HA : Hid (V.cell? ⟨D, 2, none⟩ = some (.int .i64 nz)))
    (HC : Hid (∀ X, Below V.heap.size V X → Calls Try.prog 38 #[pv] X fun x w' => x = .returned (.int .i64 hM) ∧ Below X.heap.size X w'))
    (hQ : ∀ (W' : World), Below V.heap.size V W' → K_ { tmps := #[s0, s1, s2, s3, .bool fast, s5, s6, s7, s8, s9, s10, s11, s12, s13, .pointer (some ⟨D, 0, none⟩), pv, s16, s17, s18, s19, s20, s21, s22, s23, s24, s25, s26, s27, s28, s29, s30, s31, s32, s33, s34, s35, s36, s37, s38, s39, s40, s41, s42, s43, s44, s45, .bool false, pv, .int .i64 (hM), .pointer (some ⟨D, 2, none⟩), .int .i64 (nz), .bool false, .bool false, undef, .bool false, s55, s56, s57, s58, s59, s60, s61, s62, s63, s64, s65, s66, s67, s68, s69, s70, s71, s72, s73, s74], defers := [] } W') :
    Go.Code.wp Try.prog (reg46 9) (Only K_) { tmps := #[s0, s1, s2, s3, .bool fast, s5, s6, s7, s8, s9, s10, s11, s12, s13, .pointer (some ⟨D, 0, none⟩), pv, s16, s17, s18, s19, s20, s21, s22, s23, s24, s25, s26, s27, s28, s29, s30, s31, s32, s33, s34, s35, s36, s37, s38, s39, s40, s41, s42, s43, s44, s45, s46, s47, s48, s49, s50, s51, s52, s53, s54, s55, s56, s57, s58, s59, s60, s61, s62, s63, s64, s65, s66, s67, s68, s69, s70, s71, s72, s73, s74], defers := [] } V := by
  have HQ := hide hQ
  have tm : decide (nz < hM) = false := decide_eq_false hlt
  clear hQ
  conv => arg 2; whnf
  refine wp_region_inv (fun Lb A W => ∃ (u0 u1 u2 u3 u4 u5 u6 u7 u8 : Bool) (dd : Nat), Lb = #[u0, u1, u2, u3, u4, u5, u6, u7, u8] ∧ A = ({ tmps := #[s0, s1, s2, s3, .bool fast, s5, s6, s7, s8, s9, s10, s11, s12, s13, .pointer (some ⟨D, 0, none⟩), pv, s16, s17, s18, s19, s20, s21, s22, s23, s24, s25, s26, s27, s28, s29, s30, s31, s32, s33, s34, s35, s36, s37, s38, s39, s40, s41, s42, s43, s44, s45, (bif u8 then .bool false else s46), (bif u0 then pv else s47), (bif u1 then .int .i64 (hM) else s48), (bif u2 then .pointer (some ⟨D, 2, none⟩) else s49), (bif u3 then .int .i64 (nz) else s50), (bif u4 then .bool false else s51), (bif u5 then .bool false else s52), (bif u6 then undef else s53), (bif u7 then .bool false else s54), s55, s56, s57, s58, s59, s60, s61, s62, s63, s64, s65, s66, s67, s68, s69, s70, s71, s72, s73, s74], defers := [] } : Act) ∧ Below V.heap.size V W ∧ (u1 = true → u0 = true) ∧ (u3 = true → u2 = true) ∧ (u4 = true → u1 = true ∧ u3 = true) ∧ (u5 = true → u4 = true) ∧ (u6 = true → u5 = true) ∧ (u7 = true → u5 = true ∧ u6 = true) ∧ (u8 = true → u0 = true ∧ u1 = true ∧ u2 = true ∧ u3 = true ∧ u4 = true ∧ u5 = true ∧ u6 = true ∧ u7 = true)) (by kernel_rfl) (by kernel_rfl) ?h0 ?hstep ?hend
  case h0 =>
    exact ⟨false, false, false, false, false, false, false, false, false, 0, rfl, rfl, Below.drew (Below.refl _ _), (fun h => nomatch h), (fun h => nomatch h), (fun h => nomatch h), (fun h => nomatch h), (fun h => nomatch h), (fun h => nomatch h), (fun h => nomatch h)⟩
  case hstep =>
    rintro Lb A W ⟨u0, u1, u2, u3, u4, u5, u6, u7, u8, dd, rfl, rfl, kS, c1, c3, c4, c5, c6, c7, kF⟩
    refine ⟨?_, ?_, ?_, ?_, ?_, ?_, ?_, ?_, ?_, trivial⟩
    · intro h0 hd K hK
      have z : u0 = false := h0
      have z8_ : u8 = false := by
        cases hu : u8 with
        | false => rfl
        | true => exact nomatch z.symm.trans ((kF hu).1)
      have H_kS := hide kS
      have H_c1 := hide c1
      have H_c3 := hide c3
      have H_c4 := hide c4
      have H_c5 := hide c5
      have H_c6 := hide c6
      have H_c7 := hide c7
      have H_kF := hide kF
      clear kS c1 c3 c4 c5 c6 c7 kF
      subst z8_
      subst z
      clear h0 hd
      rw [if_pos (by rfl)]
      go_simp
      exact unhide hK _ _ ⟨true, u1, u2, u3, u4, u5, u6, u7, false, dd, rfl, rfl, unhide H_kS, (fun h => rfl), unhide H_c3, unhide H_c4, unhide H_c5, unhide H_c6, unhide H_c7, (fun h => nomatch h)⟩
    · intro h0 hd K hK
      have z : u1 = false := h0
      have z8_ : u8 = false := by
        cases hu : u8 with
        | false => rfl
        | true => exact nomatch z.symm.trans ((kF hu).2.1)
      have zd : u0 = true := by
        simp [Region.binds] at hd
        simp [hd]
      have H_kS := hide kS
      have H_c1 := hide c1
      have H_c3 := hide c3
      have H_c4 := hide c4
      have H_c5 := hide c5
      have H_c6 := hide c6
      have H_c7 := hide c7
      have H_kF := hide kF
      clear kS c1 c3 c4 c5 c6 c7 kF
      obtain ⟨rfl⟩ := zd
      subst z8_
      subst z
      clear h0 hd
      rw [if_pos (by rfl)]
      go_simp
      refine (unhide HC W (unhide H_kS)).mono ?_
      rintro e w8 ⟨rfl, hb8⟩
      exact unhide hK _ _ ⟨true, true, u2, u3, u4, u5, u6, u7, false, dd, rfl, rfl, (bc (unhide H_kS) hb8), (fun _ => rfl), unhide H_c3, (fun h => ⟨rfl, (unhide H_c4 h).2⟩), unhide H_c5, unhide H_c6, unhide H_c7, (fun h => nomatch h)⟩
    · intro h0 hd K hK
      have z : u2 = false := h0
      have z8_ : u8 = false := by
        cases hu : u8 with
        | false => rfl
        | true => exact nomatch z.symm.trans ((kF hu).2.2.1)
      have H_kS := hide kS
      have H_c1 := hide c1
      have H_c3 := hide c3
      have H_c4 := hide c4
      have H_c5 := hide c5
      have H_c6 := hide c6
      have H_c7 := hide c7
      have H_kF := hide kF
      clear kS c1 c3 c4 c5 c6 c7 kF
      subst z8_
      subst z
      clear h0 hd
      rw [if_pos (by rfl)]
      go_simp
      exact unhide hK _ _ ⟨u0, u1, true, u3, u4, u5, u6, u7, false, dd, rfl, rfl, unhide H_kS, unhide H_c1, (fun h => rfl), unhide H_c4, unhide H_c5, unhide H_c6, unhide H_c7, (fun h => nomatch h)⟩
    · intro h0 hd K hK
      have z : u3 = false := h0
      have z8_ : u8 = false := by
        cases hu : u8 with
        | false => rfl
        | true => exact nomatch z.symm.trans ((kF hu).2.2.2.1)
      have zd : u2 = true := by
        simp [Region.binds] at hd
        simp [hd]
      have H_kS := hide kS
      have H_c1 := hide c1
      have H_c3 := hide c3
      have H_c4 := hide c4
      have H_c5 := hide c5
      have H_c6 := hide c6
      have H_c7 := hide c7
      have H_kF := hide kF
      clear kS c1 c3 c4 c5 c6 c7 kF
      obtain ⟨rfl⟩ := zd
      subst z8_
      subst z
      clear h0 hd
      rw [if_pos (by rfl)]
      have cc := keep1 (unhide H_kS) (unhide HA)
      go_simp
      exact unhide hK _ _ ⟨u0, u1, true, true, u4, u5, u6, u7, false, dd, rfl, rfl, unhide H_kS, unhide H_c1, (fun _ => rfl), (fun h => ⟨(unhide H_c4 h).1, rfl⟩), unhide H_c5, unhide H_c6, unhide H_c7, (fun h => nomatch h)⟩
    · intro h0 hd K hK
      have z : u4 = false := h0
      have z8_ : u8 = false := by
        cases hu : u8 with
        | false => rfl
        | true => exact nomatch z.symm.trans ((kF hu).2.2.2.2.1)
      have zd : u1 = true ∧ u3 = true := by
        simp [Region.binds] at hd
        simp [hd]
      have H_kS := hide kS
      have H_c1 := hide c1
      have H_c3 := hide c3
      have H_c4 := hide c4
      have H_c5 := hide c5
      have H_c6 := hide c6
      have H_c7 := hide c7
      have H_kF := hide kF
      clear kS c1 c3 c4 c5 c6 c7 kF
      obtain ⟨rfl, rfl⟩ := zd
      subst z8_
      subst z
      clear h0 hd
      rw [if_pos (by rfl)]
      go_simp
      exact unhide hK _ _ ⟨u0, true, u2, true, true, u5, u6, u7, false, dd, rfl, rfl, unhide H_kS, unhide H_c1, unhide H_c3, (fun _ => ⟨rfl, rfl⟩), (fun h => rfl), unhide H_c6, unhide H_c7, (fun h => nomatch h)⟩
    · intro h0 hd K hK
      have z : u5 = false := h0
      have z8_ : u8 = false := by
        cases hu : u8 with
        | false => rfl
        | true => exact nomatch z.symm.trans ((kF hu).2.2.2.2.2.1)
      have zd : u4 = true := by
        simp [Region.binds] at hd
        simp [hd]
      have H_kS := hide kS
      have H_c1 := hide c1
      have H_c3 := hide c3
      have H_c4 := hide c4
      have H_c5 := hide c5
      have H_c6 := hide c6
      have H_c7 := hide c7
      have H_kF := hide kF
      clear kS c1 c3 c4 c5 c6 c7 kF
      obtain ⟨rfl⟩ := zd
      subst z8_
      subst z
      clear h0 hd
      rw [if_pos (by rfl)]
      go_simp
      exact unhide hK _ _ ⟨u0, u1, u2, u3, true, true, u6, u7, false, dd, rfl, rfl, unhide H_kS, unhide H_c1, unhide H_c3, unhide H_c4, (fun _ => rfl), (fun h => rfl), (fun h => ⟨rfl, (unhide H_c7 h).2⟩), (fun h => nomatch h)⟩
    · intro h0 hd K hK
      have z : u6 = false := h0
      have z8_ : u8 = false := by
        cases hu : u8 with
        | false => rfl
        | true => exact nomatch z.symm.trans ((kF hu).2.2.2.2.2.2.1)
      have zd : u5 = true := by
        simp [Region.binds] at hd
        simp [hd]
      have H_kS := hide kS
      have H_c1 := hide c1
      have H_c3 := hide c3
      have H_c4 := hide c4
      have H_c5 := hide c5
      have H_c6 := hide c6
      have H_c7 := hide c7
      have H_kF := hide kF
      clear kS c1 c3 c4 c5 c6 c7 kF
      obtain ⟨rfl⟩ := zd
      subst z8_
      subst z
      clear h0 hd
      rw [if_neg (Bool.eq_false_iff.1 (by rfl))]
      try go_simp
      exact unhide hK _ _ ⟨u0, u1, u2, u3, u4, true, true, u7, false, dd, rfl, rfl, unhide H_kS, unhide H_c1, unhide H_c3, unhide H_c4, unhide H_c5, (fun _ => rfl), (fun h => ⟨rfl, rfl⟩), (fun h => nomatch h)⟩
    · intro h0 hd K hK
      have z : u7 = false := h0
      have z8_ : u8 = false := by
        cases hu : u8 with
        | false => rfl
        | true => exact nomatch z.symm.trans ((kF hu).2.2.2.2.2.2.2)
      have zd : u5 = true ∧ u6 = true := by
        simp [Region.binds] at hd
        simp [hd]
      have H_kS := hide kS
      have H_c1 := hide c1
      have H_c3 := hide c3
      have H_c4 := hide c4
      have H_c5 := hide c5
      have H_c6 := hide c6
      have H_c7 := hide c7
      have H_kF := hide kF
      clear kS c1 c3 c4 c5 c6 c7 kF
      obtain ⟨rfl, rfl⟩ := zd
      subst z8_
      subst z
      clear h0 hd
      rw [if_pos (by rfl)]
      go_simp
      exact unhide hK _ _ ⟨u0, u1, u2, u3, u4, true, true, true, false, dd, rfl, rfl, unhide H_kS, unhide H_c1, unhide H_c3, unhide H_c4, unhide H_c5, (fun h => rfl), (fun _ => ⟨rfl, rfl⟩), (fun h => nomatch h)⟩
    · intro h0 hd K hK
      have z : u8 = false := h0
      have zd : u7 = true ∧ u0 = true ∧ u1 = true ∧ u2 = true ∧ u3 = true ∧ u4 = true ∧ u5 = true ∧ u6 = true := by
        simp [Region.binds] at hd
        simp_all
      have H_kS := hide kS
      have H_c1 := hide c1
      have H_c3 := hide c3
      have H_c4 := hide c4
      have H_c5 := hide c5
      have H_c6 := hide c6
      have H_c7 := hide c7
      have H_kF := hide kF
      clear kS c1 c3 c4 c5 c6 c7 kF
      obtain ⟨rfl, rfl, rfl, rfl, rfl, rfl, rfl, rfl⟩ := zd
      subst z
      clear h0 hd
      rw [if_pos (by rfl)]
      go_simp
      exact unhide hK _ _ ⟨true, true, true, true, true, true, true, true, true, dd, rfl, rfl, unhide H_kS, (fun _ => rfl), (fun _ => rfl), (fun _ => ⟨rfl, rfl⟩), (fun _ => rfl), (fun _ => rfl), (fun _ => ⟨rfl, rfl⟩), (fun _ => ⟨rfl, rfl, rfl, rfl, rfl, rfl, rfl, rfl⟩)⟩
  case hend =>
    rintro Lb A W ⟨u0, u1, u2, u3, u4, u5, u6, u7, u8, dd, rfl, rfl, kS, c1, c3, c4, c5, c6, c7, kF⟩ hL
    have hl : u0 = true ∧ u1 = true ∧ u2 = true ∧ u3 = true ∧ u4 = true ∧ u5 = true ∧ u6 = true ∧ u7 = true ∧ u8 = true := by
      have h2 := congrArg Array.toList hL
      simpa [List.replicate] using h2
    obtain ⟨rfl, rfl, rfl, rfl, rfl, rfl, rfl, rfl, rfl⟩ := hl
    exact unhide HQ _ (kS)

end Go.Proofs.Ytjhldjojkaphkaa

namespace Go.Proofs.Ytjhldjojkaphkaa
open Go.ChangeShapes Go.WideShapes Go.ChangeAt Go.RowKit
set_option linter.unusedVariables false
set_option linter.unusedSimpArgs false

/-- how many of the first coordinates are others -/
def chgT (fx fy fz tx ty tz : Int) : Nat → Int
  | 0 => 0
  | 1 => if fx = tx then 0 else 1
  | 2 => (if fx = tx then 0 else 1) + (if fy = ty then 0 else 1)
  | _ => chg fx fy fz tx ty tz
theorem chgT_le (fx fy fz tx ty tz : Int) (i : Nat) : 0 ≤ chgT fx fy fz tx ty tz i ∧ chgT fx fy fz tx ty tz i ≤ 3 := by
  unfold chgT
  split
  · omega
  · split <;> omega
  · repeat' split
    all_goals omega
  · unfold chg
    repeat' split
    all_goals omega
set_option maxHeartbeats 4000000 in
set_option maxRecDepth 100000 in
theorem wycP_any (W H : Nat) (u : Option Addr) (n c : Nat) (fx fy fz tx ty tz : Int) (w : World) (hW1 : 1 ≤ W) (hW : W ≤ 24) (hH1 : 1 ≤ H) (hH : H ≤ 24) :
    Calls Try.prog 45 #[fldV (W : Int) (H : Int) u n c, plW fx fy fz, plW tx ty tz] w fun e w' => e = .returned (.int .i64 (wyC W H fx fy fz tx ty tz)) ∧ Below w.heap.size w w' := by
  have HB := hide (ba (ba (ba (Below.refl w.heap.size w) (.cells #[.int .i64 (W : Int), .int .i64 (H : Int), .slice u n c] 25)) (.cells #[.int .i64 fx, .int .i64 fy, .int .i64 fz] 73)) (.cells #[.int .i64 tx, .int .i64 ty, .int .i64 tz] 73))
  have w1 : IntKind.i64.wrap ((W : Int) - 1) = (W : Int) - 1 := Go.IntWalk.i64_in _ ⟨by omega, by omega⟩
  have w2 : IntKind.i64.wrap ((H : Int) - 1) = (H : Int) - 1 := Go.IntWalk.i64_in _ ⟨by omega, by omega⟩
  have H1 := hide (fun X => bt_any tx 0 ((W : Int) - 1) X)
  have H2 := hide (fun X => bt_any ty 0 ((H : Int) - 1) X)
  have H3 := hide (fun X => bt_any tz 0 24 X)
  have HWY : Hid (wyC W H fx fy fz tx ty tz = if ¬ ((decide (0 ≤ tx) && decide (tx ≤ (W : Int) - 1)) = true ∧ (decide (0 ≤ ty) && decide (ty ≤ (H : Int) - 1)) = true ∧ (decide (0 ≤ tz) && decide (tz ≤ 24)) = true) then 5 else if 1 < chg fx fy fz tx ty tz then 13 else 0) := hide (by unfold wyC inR; simp only [Bool.and_eq_true, decide_eq_true_eq])
  unfold fldV plW
  generalize (decide (0 ≤ tx) && decide (tx ≤ (W : Int) - 1)) = r1 at *
  generalize (decide (0 ≤ ty) && decide (ty ≤ (H : Int) - 1)) = r2 at *
  generalize (decide (0 ≤ tz) && decide (tz ≤ 24)) = r3 at *
  go_enter Try.func45, Try.ntmps45
  go_wp2_with fail
  refine (unhide H1 _).mono ?_
  rintro e Wx ⟨rfl, rfl⟩
  cases r1 with
  | false =>
    go_wp2_with fail
    go_ret
    exact ⟨by rw [unhide HWY]; simp, unhide HB⟩
  | true =>
  go_wp2_with fail
  refine (unhide H2 _).mono ?_
  rintro e Wx ⟨rfl, rfl⟩
  cases r2 with
  | false =>
    go_wp2_with fail
    go_ret
    exact ⟨by rw [unhide HWY]; simp, unhide HB⟩
  | true =>
  go_wp2_with fail
  refine (unhide H3 _).mono ?_
  rintro e Wx ⟨rfl, rfl⟩
  cases r3 with
  | false =>
    go_wp2_with fail
    go_ret
    exact ⟨by rw [unhide HWY]; simp, unhide HB⟩
  | true =>
  have HW2 : Hid (wyC W H fx fy fz tx ty tz = if 1 < chg fx fy fz tx ty tz then 13 else 0) := hide (by rw [unhide HWY]; simp)
  have HVS0 := hide (vb_new (((w.alloc (.cells #[.int .i64 (W : Int), .int .i64 (H : Int), .slice u n c] 25)).alloc (.cells #[.int .i64 fx, .int .i64 fy, .int .i64 fz] 73)).alloc (.cells #[.int .i64 tx, .int .i64 ty, .int .i64 tz] 73)) 114 [.int .i64 fx, .int .i64 tx, .int .i64 fy, .int .i64 ty, .int .i64 fz, .int .i64 tz] (w.heap.size + 1 + 1 + 1) (by simp))
  have HB2 := hide (ba (unhide HB) (.cells #[.int .i64 fx, .int .i64 tx, .int .i64 fy, .int .i64 ty, .int .i64 fz, .int .i64 tz] 114))
  go_wp2_with fail
  generalize (((w.alloc (.cells #[.int .i64 (W : Int), .int .i64 (H : Int), .slice u n c] 25)).alloc (.cells #[.int .i64 fx, .int .i64 fy, .int .i64 fz] 73)).alloc (.cells #[.int .i64 tx, .int .i64 ty, .int .i64 tz] 73)).alloc (.cells #[.int .i64 fx, .int .i64 tx, .int .i64 fy, .int .i64 ty, .int .i64 fz, .int .i64 tz] 114) = Wa at *
  go_loopw [7, 49] (fun z7 zz X => ∃ i : Nat, zz = .int .i64 (i : Int) ∧ i ≤ 3 ∧ z7 = .int .i64 (chgT fx fy fz tx ty tz i) ∧ vb X (w.heap.size + 1 + 1 + 1) 114 [.int .i64 fx, .int .i64 tx, .int .i64 fy, .int .i64 ty, .int .i64 fz, .int .i64 tz] ∧ Below w.heap.size w X) (fun _ zz _ => 3 - (intOf zz).toNat)
  case atStart => exact ⟨0, rfl, by omega, rfl, unhide HVS0, unhide HB2⟩
  case round =>
    obtain ⟨i, rfl, hi, rfl, hvs, hw⟩ := hrel
    have HVS := hide hvs
    have HWW := hide hw
    have c0 := hvs.cell (m := 0) rfl
    have c1 := hvs.cell (m := 1) rfl
    have c2 := hvs.cell (m := 2) rfl
    have c3 := hvs.cell (m := 3) rfl
    have c4 := hvs.cell (m := 4) rfl
    have c5 := hvs.cell (m := 5) rfl
    clear hvs hw
    by_cases h : i < 3
    · have hc : i = 0 ∨ i = 1 ∨ i = 2 := by omega
      rcases hc with rfl | hc
      · skip
        by_cases e1 : fx = tx
        · have t1 : (fx != tx) = false := by simp [e1]
          have HCV : Hid (chgT fx fy fz tx ty tz 1 = chgT fx fy fz tx ty tz 0 + 0) := hide (by simp [chgT, chg, e1])
          have hA : Below wr.heap.size wr (wr.alloc (.cells #[.int .i64 fx, .int .i64 tx] 114)) := ba (Below.refl _ _) _
          have HVn := hide ((unhide HVS).bel hA)
          have HWn := hide (bc (unhide HWW) hA)
          have hb := chgT_le fx fy fz tx ty tz 0
          generalize chgT fx fy fz tx ty tz 0 = cc at *
          clear hA e1
          go_wp2_with fail
          go_roundw
          case rel => exact ⟨1, by simp, by omega, by rw [unhide HCV]; first | done | rfl | simp, unhide HVn, unhide HWn⟩
          case measure => simp only [intOf]; omega
        · have t1 : (fx != tx) = true := by simp [e1]
          have HCV : Hid (chgT fx fy fz tx ty tz 1 = chgT fx fy fz tx ty tz 0 + 1) := hide (by simp [chgT, chg, e1])
          have hA : Below wr.heap.size wr (wr.alloc (.cells #[.int .i64 fx, .int .i64 tx] 114)) := ba (Below.refl _ _) _
          have HVn := hide ((unhide HVS).bel hA)
          have HWn := hide (bc (unhide HWW) hA)
          have hb := chgT_le fx fy fz tx ty tz 0
          generalize chgT fx fy fz tx ty tz 0 = cc at *
          clear hA e1
          go_wp2_with fail
          go_roundw
          case rel => exact ⟨1, by simp, by omega, by rw [unhide HCV]; first | done | rfl | simp, unhide HVn, unhide HWn⟩
          case measure => simp only [intOf]; omega

      rcases hc with rfl | rfl
      · skip
        by_cases e1 : fy = ty
        · have t1 : (fy != ty) = false := by simp [e1]
          have HCV : Hid (chgT fx fy fz tx ty tz 2 = chgT fx fy fz tx ty tz 1 + 0) := hide (by simp [chgT, chg, e1])
          have hA : Below wr.heap.size wr (wr.alloc (.cells #[.int .i64 fy, .int .i64 ty] 114)) := ba (Below.refl _ _) _
          have HVn := hide ((unhide HVS).bel hA)
          have HWn := hide (bc (unhide HWW) hA)
          have hb := chgT_le fx fy fz tx ty tz 1
          generalize chgT fx fy fz tx ty tz 1 = cc at *
          clear hA e1
          go_wp2_with fail
          go_roundw
          case rel => exact ⟨2, by simp, by omega, by rw [unhide HCV]; first | done | rfl | simp, unhide HVn, unhide HWn⟩
          case measure => simp only [intOf]; omega
        · have t1 : (fy != ty) = true := by simp [e1]
          have HCV : Hid (chgT fx fy fz tx ty tz 2 = chgT fx fy fz tx ty tz 1 + 1) := hide (by simp [chgT, chg, e1])
          have hA : Below wr.heap.size wr (wr.alloc (.cells #[.int .i64 fy, .int .i64 ty] 114)) := ba (Below.refl _ _) _
          have HVn := hide ((unhide HVS).bel hA)
          have HWn := hide (bc (unhide HWW) hA)
          have hb := chgT_le fx fy fz tx ty tz 1
          generalize chgT fx fy fz tx ty tz 1 = cc at *
          clear hA e1
          go_wp2_with fail
          go_roundw
          case rel => exact ⟨2, by simp, by omega, by rw [unhide HCV]; first | done | rfl | simp, unhide HVn, unhide HWn⟩
          case measure => simp only [intOf]; omega

      · skip
        by_cases e1 : fz = tz
        · have t1 : (fz != tz) = false := by simp [e1]
          have HCV : Hid (chgT fx fy fz tx ty tz 3 = chgT fx fy fz tx ty tz 2 + 0) := hide (by simp [chgT, chg, e1])
          have hA : Below wr.heap.size wr (wr.alloc (.cells #[.int .i64 fz, .int .i64 tz] 114)) := ba (Below.refl _ _) _
          have HVn := hide ((unhide HVS).bel hA)
          have HWn := hide (bc (unhide HWW) hA)
          have hb := chgT_le fx fy fz tx ty tz 2
          generalize chgT fx fy fz tx ty tz 2 = cc at *
          clear hA e1
          go_wp2_with fail
          go_roundw
          case rel => exact ⟨3, by simp, by omega, by rw [unhide HCV]; first | done | rfl | simp, unhide HVn, unhide HWn⟩
          case measure => simp only [intOf]; omega
        · have t1 : (fz != tz) = true := by simp [e1]
          have HCV : Hid (chgT fx fy fz tx ty tz 3 = chgT fx fy fz tx ty tz 2 + 1) := hide (by simp [chgT, chg, e1])
          have hA : Below wr.heap.size wr (wr.alloc (.cells #[.int .i64 fz, .int .i64 tz] 114)) := ba (Below.refl _ _) _
          have HVn := hide ((unhide HVS).bel hA)
          have HWn := hide (bc (unhide HWW) hA)
          have hb := chgT_le fx fy fz tx ty tz 2
          generalize chgT fx fy fz tx ty tz 2 = cc at *
          clear hA e1
          go_wp2_with fail
          go_roundw
          case rel => exact ⟨3, by simp, by omega, by rw [unhide HCV]; first | done | rfl | simp, unhide HVn, unhide HWn⟩
          case measure => simp only [intOf]; omega

    · have ei : i = 3 := by omega
      subst ei
      have HC3 : Hid (chgT fx fy fz tx ty tz 3 = chg fx fy fz tx ty tz) := hide rfl
      rw [unhide HC3]
      by_cases hg : 1 < chg fx fy fz tx ty tz
      · have tg := decide_eq_true hg
        have HW3 : Hid (wyC W H fx fy fz tx ty tz = 13) := hide (by rw [unhide HW2, if_pos hg])
        generalize chg fx fy fz tx ty tz = cc at *
        go_wp2_with fail
        go_ret
        exact ⟨by rw [unhide HW3]; first | done | rfl, unhide HWW⟩
      · have tg := decide_eq_false hg
        have HW3 : Hid (wyC W H fx fy fz tx ty tz = 0) := hide (by rw [unhide HW2, if_neg hg])
        generalize chg fx fy fz tx ty tz = cc at *
        go_wp2_with fail
        go_ret
        exact ⟨by rw [unhide HW3]; first | done | rfl, unhide HWW⟩
end Go.Proofs.Ytjhldjojkaphkaa

namespace Go.Proofs.Ytjhldjojkaphkaa
open Go.ChangeShapes Go.WideShapes Go.ChangeAt Go.RowKit
set_option linter.unusedVariables false
set_option linter.unusedSimpArgs false

theorem Mq.belw {a b C : Nat} {x y : World} (h : Mq a b x y) (hC : C ≤ x.heap.size) (h1 : C ≤ a) (h2 : C ≤ b) : Below C x y := ⟨h.os, h.tape, h.output, h.size, fun k hk => h.block k (by omega) (by omega) (by omega)⟩
theorem bel_of_same {a b : World} (h : Same a b) : Below a.heap.size a b := h.bel
theorem vb.mq {a b : Nat} {x y : World} {k t : Nat} {vs : List Value} (h : vb x k t vs) (hm : Mq a b x y) (h1 : k ≠ a) (h2 : k ≠ b) : vb y k t vs := (hm.block k h.lt h1 h2).trans h
set_option maxHeartbeats 16000000 in
set_option maxRecDepth 100000 in
theorem afP_any (W H r : Nat) (fast : Bool) (e b : Int) (q0 po0 n c0 wv cw g po c N : Nat) (fx fy fz tx ty tz : Int) (P : List Int) (s : Ml) (w : World)
    (hW1 : 1 ≤ W) (hW : W ≤ 24) (hH1 : 1 ≤ H) (hH : H ≤ 24) (hr : r ≤ 3) (hn : n = W * H) (hO : MOk n s) (hA : 0 ≤ s.air ∧ s.air ≤ 900000) (hN : N ≤ 400)
    (hT : Fd w q0 po0 n c0 s.T) (hP : Fd w g po n c P) (hV : wv < w.heap.size ∧ IntsAt w wv 0 (wayF fx fy fz tx ty tz N))
    (hX : ∀ i, 1 ≤ i → i ≤ N → (0 ≤ nth fx tx i ∧ nth fx tx i ≤ (W : Int) - 1) ∧ (0 ≤ nth fy ty i ∧ nth fy ty i ≤ (H : Int) - 1) ∧ (0 ≤ nth fz tz i ∧ nth fz tz i ≤ 24))
    (hWK : ∀ k, k ≤ N → MOk n (walkC P W H r fast fx fy fz tx ty tz s k).2 ∧ s.air ≤ (walkC P W H r fast fx fy fz tx ty tz s k).2.air ∧ (walkC P W H r fast fx fy fz tx ty tz s k).2.air ≤ s.air + k)
    (hST : ∀ k, k ≤ N → (walkC P W H r fast fx fy fz tx ty tz s k).1 ≠ 0 → walkC P W H r fast fx fy fz tx ty tz s N = walkC P W H r fast fx fy fz tx ty tz s k) :
    Calls Try.prog 46 #[.agg #[.int .i64 e, .int .i64 b, .int .i64 (W : Int), .int .i64 (H : Int), .slice (some ⟨q0, po0, none⟩) n c0, .int .i64 s.cut, .int .i64 s.air, .int .i64 s.dep], .slice (some ⟨wv, 0, none⟩) N cw, fldV (W : Int) (H : Int) (some ⟨g, po, none⟩) n c, .int .i64 (r : Int), .bool fast] w fun x w' => (∃ q cap s' code, x = .returned (.tuple #[.agg (pnV e b W H q n cap s').toArray, .int .i64 code]) ∧ Row w' w.heap.size 3 1 (.slice (some ⟨q, 0, none⟩) n cap) n s'.T ∧ code = (walkC P W H r fast fx fy fz tx ty tz s N).1 ∧ (code = 0 → s' = (walkC P W H r fast fx fy fz tx ty tz s N).2)) ∧ Below w.heap.size w w' := by
  have hnb : n ≤ 576 := by rw [hn]; exact Nat.mul_le_mul hW hH
  have HCP := hide (fun X (hX : Below w.heap.size w X) => cpP_any (W : Int) (H : Int) q0 po0 n c0 s.T X (hT.bel hX) hnb)
  have HUP := hide (fun (x y : Nat) (X : World) (hx : x < W) (hy : y < H) => unP_any W H r x y g po n c X hW hH hr hx hy hn hP.cap hP.top)
  have HUM := hide (fun (q cap x y : Nat) (X : World) (h1 : n ≤ cap) (h2 : cap ≤ 9223372036854775807) (hx : x < W) (hy : y < H) => unP_any W H r x y q 0 n cap X hW hH hr hx hy hn h1 h2)
  have HPK := hide (fun (x y : Nat) (hx : x < W) (hy : y < H) => (show (∀ p ∈ pieces W H r x y, 0 < p.2 ∧ p.1 + p.2 ≤ n) ∧ (pieces W H r x y).length ≤ 24 from ⟨by rw [hn]; exact pieces_ok hr hx hy, by rw [pieces_len]; exact vn_le hH hy⟩))
  have HPF := hide hP
  have HWV := hide hV
  have HXB := hide hX
  have HWK := hide hWK
  have HST := hide hST
  have b0 := (.cells #[.int .i64 e, .int .i64 b, .int .i64 (W : Int), .int .i64 (H : Int), .slice (some ⟨q0, po0, none⟩) n c0, .int .i64 s.cut, .int .i64 s.air, .int .i64 s.dep] 34 : Obj)
  have HB := hide (ba (ba (ba (Below.refl w.heap.size w) (.cells #[.int .i64 e, .int .i64 b, .int .i64 (W : Int), .int .i64 (H : Int), .slice (some ⟨q0, po0, none⟩) n c0, .int .i64 s.cut, .int .i64 s.air, .int .i64 s.dep] 34)) (.cells #[.int .i64 (W : Int), .int .i64 (H : Int), .slice (some ⟨g, po, none⟩) n c] 25)) (.cells #[.int .i64 0, .int .i64 0, .int .i64 0, .int .i64 0, .slice none 0 0, .int .i64 0, .int .i64 0, .int .i64 0] 34))
  clear b0 hT hP hV hX hWK hST hn
  unfold fldV at *
  have HR0 := hide (((vb_new w 34 [.int .i64 e, .int .i64 b, .int .i64 (W : Int), .int .i64 (H : Int), .slice (some ⟨q0, po0, none⟩) n c0, .int .i64 s.cut, .int .i64 s.air, .int .i64 s.dep] w.heap.size rfl).bel (ba (Below.refl _ _) (.cells #[.int .i64 (W : Int), .int .i64 (H : Int), .slice (some ⟨g, po, none⟩) n c] 25))).bel (ba (Below.refl _ _) (.cells #[.int .i64 0, .int .i64 0, .int .i64 0, .int .i64 0, .slice none 0 0, .int .i64 0, .int .i64 0, .int .i64 0] 34)))
  have HP0 := hide ((vb_new (w.alloc (.cells #[.int .i64 e, .int .i64 b, .int .i64 (W : Int), .int .i64 (H : Int), .slice (some ⟨q0, po0, none⟩) n c0, .int .i64 s.cut, .int .i64 s.air, .int .i64 s.dep] 34)) 25 [.int .i64 (W : Int), .int .i64 (H : Int), .slice (some ⟨g, po, none⟩) n c] (w.heap.size + 1) (by simp)).bel (ba (Below.refl _ _) (.cells #[.int .i64 0, .int .i64 0, .int .i64 0, .int .i64 0, .slice none 0 0, .int .i64 0, .int .i64 0, .int .i64 0] 34)))
  have HZ0 := hide (vb_new ((w.alloc (.cells #[.int .i64 e, .int .i64 b, .int .i64 (W : Int), .int .i64 (H : Int), .slice (some ⟨q0, po0, none⟩) n c0, .int .i64 s.cut, .int .i64 s.air, .int .i64 s.dep] 34)).alloc (.cells #[.int .i64 (W : Int), .int .i64 (H : Int), .slice (some ⟨g, po, none⟩) n c] 25)) 34 [.int .i64 0, .int .i64 0, .int .i64 0, .int .i64 0, .slice none 0 0, .int .i64 0, .int .i64 0, .int .i64 0] (w.heap.size + 2) (by simp))
  go_enter Try.func46, Try.ntmps46
  go_wp2_with fail
  go_step3
  go_wp2_with fail
  refine (unhide HCP _ (unhide HB)).mono ?_
  rintro x W1 ⟨⟨q, cap, rfl, hro⟩, hb1⟩
  have vr := (unhide HR0).bel hb1
  have k2 := vr.cell (m := 2) rfl
  have k3 := vr.cell (m := 3) rfl
  have k4 := vr.cell (m := 4) rfl
  have kf := vr.frozen
  have hfd := hro.fd
  have hc1 := hfd.cap
  have hc2 := hfd.top
  have hq3 : w.heap.size + 3 ≤ q := by have h1 := hro.ge; simpa using h1
  have HPN : Hid (Pn (((W1.setCell ⟨w.heap.size, 2, none⟩ (.int .i64 (W : Int))).setCell ⟨w.heap.size, 3, none⟩ (.int .i64 (H : Int))).setCell ⟨w.heap.size, 4, none⟩ (.slice (some ⟨q, 0, none⟩) n cap)) (w.heap.size + 3) w.heap.size e b W H q n cap s) := hide ⟨((vr.set 2 _).set 3 _).set 4 _, (hro.mono (by simp)).kept' (fun y hy => by
    simp only [Value.ownBlock, Option.some.injEq] at hy
    subst hy
    have hne : q ≠ w.heap.size := by omega
    exact (Below.heap_setCell _ _ _ _ hne).trans ((Below.heap_setCell _ _ _ _ hne).trans (Below.heap_setCell _ _ _ _ hne)))⟩
  have HVP : Hid (vb (((W1.setCell ⟨w.heap.size, 2, none⟩ (.int .i64 (W : Int))).setCell ⟨w.heap.size, 3, none⟩ (.int .i64 (H : Int))).setCell ⟨w.heap.size, 4, none⟩ (.slice (some ⟨q, 0, none⟩) n cap)) (w.heap.size + 1) 25 [.int .i64 (W : Int), .int .i64 (H : Int), .slice (some ⟨g, po, none⟩) n c]) := hide (((((unhide HP0).bel hb1).ne (by omega)).ne (by omega)).ne (by omega))
  have HVZ : Hid (vb (((W1.setCell ⟨w.heap.size, 2, none⟩ (.int .i64 (W : Int))).setCell ⟨w.heap.size, 3, none⟩ (.int .i64 (H : Int))).setCell ⟨w.heap.size, 4, none⟩ (.slice (some ⟨q, 0, none⟩) n cap)) (w.heap.size + 2) 34 [.int .i64 0, .int .i64 0, .int .i64 0, .int .i64 0, .slice none 0 0, .int .i64 0, .int .i64 0, .int .i64 0]) := hide (((((unhide HZ0).bel hb1).ne (by omega)).ne (by omega)).ne (by omega))
  have HBW : Hid (Below w.heap.size w (((W1.setCell ⟨w.heap.size, 2, none⟩ (.int .i64 (W : Int))).setCell ⟨w.heap.size, 3, none⟩ (.int .i64 (H : Int))).setCell ⟨w.heap.size, 4, none⟩ (.slice (some ⟨q, 0, none⟩) n cap))) := hide (Below.setCell (Below.setCell (Below.setCell (bc (unhide HB) hb1) (Nat.le_refl _) _) (Nat.le_refl _) _) (Nat.le_refl _) _)
  clear hro hb1 vr hfd HR0 HP0 HZ0 HB
  go_wp2_with fail
  generalize ((W1.setCell ⟨w.heap.size, 2, none⟩ (.int .i64 (W : Int))).setCell ⟨w.heap.size, 3, none⟩ (.int .i64 (H : Int))).setCell ⟨w.heap.size, 4, none⟩ (.slice (some ⟨q, 0, none⟩) n cap) = W2 at *
  clear k2 k3 k4 kf
  first | go_step3 | skip
  go_wp2_with fail
  go_loopw [12, 22] (fun z12 zz X => ∃ i : Nat, zz = .int .i64 (i : Int) ∧ i ≤ N ∧ z12 = .int .i64 0 ∧ (walkC P W H r fast fx fy fz tx ty tz s i).1 = 0 ∧ Pn X (w.heap.size + 3) w.heap.size e b W H q n cap (walkC P W H r fast fx fy fz tx ty tz s i).2 ∧ vb X (w.heap.size + 1) 25 [.int .i64 (W : Int), .int .i64 (H : Int), .slice (some ⟨g, po, none⟩) n c] ∧ vb X (w.heap.size + 2) 34 [.int .i64 0, .int .i64 0, .int .i64 0, .int .i64 0, .slice none 0 0, .int .i64 0, .int .i64 0, .int .i64 0] ∧ Below w.heap.size w X) (fun _ zz _ => N - (intOf zz).toNat)
  case atStart => exact ⟨0, rfl, Nat.zero_le _, rfl, rfl, unhide HPN, unhide HVP, unhide HVZ, unhide HBW⟩
  case round =>
    obtain ⟨i, rfl, hii, rfl, hi0, hpn, hvp, hvz, hw⟩ := hrel
    have HI0 := hide hi0
    have HPi := hide hpn
    have HVPi := hide hvp
    have HVZi := hide hvz
    have HWi := hide hw
    clear hi0 hpn hvp hvz hw
    by_cases h : i < N
    · have l1 : (i : Int) < (N : Int) := by omega
      have l0 : (0 : Int) ≤ (i : Int) := Int.natCast_nonneg _
      have lz := decide_eq_true l1
      obtain ⟨⟨x0, x1⟩, ⟨y0, y1⟩, z0, z1⟩ := (unhide HXB) (i + 1) (by omega) (by omega)
      obtain ⟨hok, hai1, hai2⟩ := (unhide HWK) i (by omega)
      have HSTi := hide ((unhide HST) (i + 1) (by omega))
      obtain ⟨wa1, wa2, wa3⟩ := wayF_at fx fy fz tx ty tz h
      have HWS : Hid (walkC P W H r fast fx fy fz tx ty tz s (i + 1) = placeC P (cols W H r (nth fx tx (i + 1)).toNat (nth fy ty (i + 1)).toNat) (nth fz tz (i + 1)) fast (walkC P W H r fast fx fy fz tx ty tz s i).2) := hide (by
        show (if _ then _ else _) = _
        rw [if_neg (by rw [unhide HI0]; simp)])
      obtain ⟨nx, hnx⟩ : ∃ nx : Nat, nth fx tx (i + 1) = (nx : Int) := ⟨(nth fx tx (i + 1)).toNat, by omega⟩
      obtain ⟨ny, hny⟩ : ∃ ny : Nat, nth fy ty (i + 1) = (ny : Int) := ⟨(nth fy ty (i + 1)).toNat, by omega⟩
      obtain ⟨nz, hnz⟩ : ∃ nz : Int, nth fz tz (i + 1) = nz := ⟨_, rfl⟩
      rw [hnx] at x0 x1 wa1 HWS
      rw [hny] at y0 y1 wa2 HWS
      rw [hnz] at z0 z1 wa3 HWS
      simp only [Int.toNat_natCast] at HWS
      have hwi := (unhide HWV).2.below (unhide HWi) (unhide HWV).1
      have c1 := hwi _ _ wa1
      have c2 := hwi _ _ wa2
      have c3 := hwi _ _ wa3
      simp only [Nat.zero_add] at c1 c2 c3
      have HUMi := hide (fun X => (unhide HUM) q cap nx ny X hc1 hc2 (by omega) (by omega))
      have HUPi := hide (fun X => (unhide HUP) nx ny X (by omega) (by omega))
      obtain ⟨hpk1, hpk2⟩ := (unhide HPK) nx ny (by omega) (by omega)
      have HPK1 := hide hpk1
      have hA : Below wr.heap.size wr (wr.alloc (.cells #[.int .i64 (nx : Int), .int .i64 (ny : Int), .int .i64 nz] 73)) := ba (Below.refl _ _) _
      have HA0 := hide (vb_new wr 73 [.int .i64 (nx : Int), .int .i64 (ny : Int), .int .i64 nz] wr.heap.size rfl)
      have HPa := hide ((unhide HPi).bel hA)
      have HVPa := hide ((unhide HVPi).bel hA)
      have HVZa := hide ((unhide HVZi).bel hA)
      have HWa := hide (bc (unhide HWi) hA)
      obtain ⟨sk, hsk⟩ : ∃ sk, (walkC P W H r fast fx fy fz tx ty tz s i).2 = sk := ⟨_, rfl⟩
      rw [hsk] at HPa HWS hok hai1 hai2
      have p2 := (unhide HPa).v.cell (m := 2) rfl
      have p3 := (unhide HPa).v.cell (m := 3) rfl
      have p4 := (unhide HPa).v.cell (m := 4) rfl
      have HOK := hide hok
      clear hA hnx hny hnz wa1 wa2 wa3 hwi hpk1 hsk hok
      go_wp2_with fail
      generalize wr.alloc (.cells #[.int .i64 (nx : Int), .int .i64 (ny : Int), .int .i64 nz] 73) = Wa at *
      generalize wr.heap.size = A at *
      have HGP := hide (fun (Bv : Nat) (v : Value) (X : World) (hX : Below w.heap.size w X) (hp : Pcs X Bv v g po (pieces W H r nx ny)) (hv : v ≠ .slice none 0 0) => hgP_any v Bv g po (pieces W H r nx ny) P X hp hv ((unhide HPF).bel hX).ints (by rw [(unhide HPF).len]; exact unhide HPK1) (by rw [(unhide HPF).len]; exact hnb) hpk2)
      have HGM := hide (fun (Bv : Nat) (v : Value) (X : World) (hX : Pn X (w.heap.size + 3) w.heap.size e b W H q n cap sk) (hp : Pcs X Bv v q 0 (pieces W H r nx ny)) (hv : v ≠ .slice none 0 0) => hgP_any v Bv q 0 (pieces W H r nx ny) sk.T X hp hv hX.row.ints (by rw [(unhide HOK).len]; exact unhide HPK1) (by rw [(unhide HOK).len]; exact hnb) hpk2)
      have HTK := hide (fun (Bv : Nat) (v : Value) (X : World) (hX : Pn X (w.heap.size + 3) w.heap.size e b W H q n cap sk) (hp : Pcs X Bv v q 0 (pieces W H r nx ny)) (hv : v ≠ .slice none 0 0) (h1 : q < Bv) (h2 : w.heap.size < Bv) => tkP_any v Bv (w.heap.size + 3) w.heap.size e b W H q n cap (pieces W H r nx ny) nz sk X hp hv (unhide HPK1) hpk2 hnb ⟨z0, z1⟩ (unhide HOK) (by omega) h1 h2 hX)
      rw [show flatP (pieces W H r nx ny) = cols W H r nx ny from rfl] at HGP HGM HTK
      obtain ⟨hP, ehP⟩ : ∃ hP, hi P (cols W H r nx ny) = hP := ⟨_, rfl⟩
      obtain ⟨hM, ehM⟩ : ∃ hM, hi sk.T (cols W H r nx ny) = hM := ⟨_, rfl⟩
      have HPC : Hid (placeC P (cols W H r nx ny) nz fast sk = if nz < hP then (16, sk) else if nz < hM then (if fast then (17, sk) else (0, takeC nz sk (cols W H r nx ny))) else (0, if fast then sk else ⟨sk.T, sk.cut, sk.air + 1, sk.dep⟩)) := hide (by unfold placeC; rw [ehP, ehM])
      rw [ehP] at HGP
      rw [ehM] at HGM
      have HQA : Hid (q < Wa.heap.size ∧ w.heap.size < Wa.heap.size) := hide ⟨(World.ownsRow.lt (unhide HPa).row q rfl).2, (unhide HPa).v.lt⟩
      clear ehP ehM
      refine (unhide HUMi _).mono ?_
      rintro x W4 ⟨⟨pv, rfl, hpv, hps⟩, hb4⟩
      have HAa := HA0
      have HPV := hide hpv
      have HPS4 := hide hps
      have HA4 := hide ((unhide HAa).bel hb4)
      have HP4 := hide ((unhide HPa).bel hb4)
      have HVP4 := hide ((unhide HVPa).bel hb4)
      have HVZ4 := hide ((unhide HVZa).bel hb4)
      have HW4 := hide (bc (unhide HWa) hb4)
      have a0 := (unhide HA4).cell (m := 0) rfl
      have a1 := (unhide HA4).cell (m := 1) rfl
      have a2 := (unhide HA4).cell (m := 2) rfl
      have q0' := (unhide HVP4).cell (m := 0) rfl
      have q1' := (unhide HVP4).cell (m := 1) rfl
      have q2' := (unhide HVP4).cell (m := 2) rfl
      clear hb4 hpv hps c1 c2 c3 p2 p3 p4
      go_upto_region 7 with fail
      go_cut [34] (fun sv wx => sv = .bool (decide (nz < hP)) ∧ Below W4.heap.size W4 wx)
      case first =>
        go_region_held3 (fun wx => wx.cell? ⟨A, 0, none⟩ = some (.int .i64 (nx : Int)) ∧ wx.cell? ⟨A, 1, none⟩ = some (.int .i64 (ny : Int)) ∧ wx.cell? ⟨A, 2, none⟩ = some (.int .i64 nz) ∧ wx.cell? ⟨w.heap.size + 1, 0, none⟩ = some (.int .i64 (W : Int)) ∧ wx.cell? ⟨w.heap.size + 1, 1, none⟩ = some (.int .i64 (H : Int)) ∧ wx.cell? ⟨w.heap.size + 1, 2, none⟩ = some (.slice (some ⟨g, po, none⟩) n c))
          (simp (maxDischargeDepth := 12) [go_sem, le1, lt1, *])
          (first
          | (go_at_call 70; refine (unhide HUPi _).mono ?_; rintro x w' ⟨⟨v2, rfl, hv2, hps2⟩, hb⟩; have HBx := hide (show Below W4.heap.size W4 w' from bc (by repeat (first | exact Below.refl _ _ | refine bel_dn' ?_ _ | refine Below.drew ?_)) hb); have HPS2 := hide hps2; have HV2 := hide hv2; have s0 := keep1 hb (b := A) (o := 0) (v := .int .i64 (nx : Int)) (by simp (maxDischargeDepth := 12) [go_sem, le1, lt1, *]); have s1 := keep1 hb (b := A) (o := 1) (v := .int .i64 (ny : Int)) (by simp (maxDischargeDepth := 12) [go_sem, le1, lt1, *]); have s2 := keep1 hb (b := A) (o := 2) (v := .int .i64 nz) (by simp (maxDischargeDepth := 12) [go_sem, le1, lt1, *]); have s3 := keep1 hb (b := w.heap.size + 1) (o := 0) (v := .int .i64 (W : Int)) (by simp (maxDischargeDepth := 12) [go_sem, le1, lt1, *]); have s4 := keep1 hb (b := w.heap.size + 1) (o := 1) (v := .int .i64 (H : Int)) (by simp (maxDischargeDepth := 12) [go_sem, le1, lt1, *]); have s5 := keep1 hb (b := w.heap.size + 1) (o := 2) (v := .slice (some ⟨g, po, none⟩) n c) (by simp (maxDischargeDepth := 12) [go_sem, le1, lt1, *]); clear hb hps2 hv2)
          | (go_at_call 38; refine (unhide HGP _ _ _ (bc (unhide HW4) (by repeat (first | exact unhide HBx | refine bel_dn' ?_ _ | refine Below.drew ?_))) (by exact unhide HPS2) (unhide HV2)).mono ?_; rintro x w' ⟨rfl, hs⟩; have hb := bel_of_same hs; have HBy := hide (show Below W4.heap.size W4 w' from bc (by repeat (first | exact unhide HBx | refine bel_dn' ?_ _ | refine Below.drew ?_)) hb); have t0 := keep1 hb (b := A) (o := 0) (v := .int .i64 (nx : Int)) (by simp (maxDischargeDepth := 12) [go_sem, le1, lt1, *]); have t1 := keep1 hb (b := A) (o := 1) (v := .int .i64 (ny : Int)) (by simp (maxDischargeDepth := 12) [go_sem, le1, lt1, *]); have t2 := keep1 hb (b := A) (o := 2) (v := .int .i64 nz) (by simp (maxDischargeDepth := 12) [go_sem, le1, lt1, *]); have t3 := keep1 hb (b := w.heap.size + 1) (o := 0) (v := .int .i64 (W : Int)) (by simp (maxDischargeDepth := 12) [go_sem, le1, lt1, *]); have t4 := keep1 hb (b := w.heap.size + 1) (o := 1) (v := .int .i64 (H : Int)) (by simp (maxDischargeDepth := 12) [go_sem, le1, lt1, *]); have t5 := keep1 hb (b := w.heap.size + 1) (o := 2) (v := .slice (some ⟨g, po, none⟩) n c) (by simp (maxDischargeDepth := 12) [go_sem, le1, lt1, *]); clear hb hs))
        all_goals
          go_wp2_with fail
          go_meet
          case rel => exact ⟨rfl, (by repeat (first | exact unhide HBy | refine bel_dn' ?_ _ | refine Below.drew ?_))⟩
      case rest =>
      obtain ⟨rfl, hw5⟩ := hcut
      have HA5 := hide ((unhide HA4).bel hw5)
      have HP5 := hide ((unhide HP4).bel hw5)
      have HVP5 := hide ((unhide HVP4).bel hw5)
      have HVZ5 := hide ((unhide HVZ4).bel hw5)
      have HW5 := hide (bc (unhide HW4) hw5)
      have HPS5 := hide (show Pcs wc Wa.heap.size pv q 0 (pieces W H r nx ny) from own_bel (unhide HPS4) hw5)
      clear hw5 a0 a1 a2 q0' q1' q2'
      generalize hW5e : wc = W5 at *
      clear hW5e
      by_cases hg : nz < hP
      · rw [decide_eq_true hg]
        have HWN : Hid (walkC P W H r fast fx fy fz tx ty tz s (i + 1) = (16, sk)) := hide (by rw [unhide HWS, unhide HPC, if_pos hg])
        have HCO : Hid ((16 : Int) = (walkC P W H r fast fx fy fz tx ty tz s N).1) := hide (by rw [(unhide HSTi) (by rw [unhide HWN]; simp), unhide HWN])
        have p0 := (unhide HP5).v.cell (m := 0) rfl
        have p1 := (unhide HP5).v.cell (m := 1) rfl
        have p2 := (unhide HP5).v.cell (m := 2) rfl
        have p3 := (unhide HP5).v.cell (m := 3) rfl
        have p4 := (unhide HP5).v.cell (m := 4) rfl
        have p5 := (unhide HP5).v.cell (m := 5) rfl
        have p6 := (unhide HP5).v.cell (m := 6) rfl
        have p7 := (unhide HP5).v.cell (m := 7) rfl
        have q0 := (unhide HVZ5).cell (m := 0) rfl
        have q1 := (unhide HVZ5).cell (m := 1) rfl
        have q2 := (unhide HVZ5).cell (m := 2) rfl
        have q3 := (unhide HVZ5).cell (m := 3) rfl
        have q4 := (unhide HVZ5).cell (m := 4) rfl
        have q5 := (unhide HVZ5).cell (m := 5) rfl
        have q6 := (unhide HVZ5).cell (m := 6) rfl
        have q7 := (unhide HVZ5).cell (m := 7) rfl
        have zf := (unhide HVZ5).frozen
        go_wp2_with fail
        (try rw [Exit.noGoto_ret])
        refine bodyPost_ret (v := .tuple #[.agg (pnV e b W H q n cap sk).toArray, .int .i64 16]) (by simp [results, Try.results46, go_sem, pnV, p0, p1, p2, p3, p4, p5, p6, p7, q0, q1, q2, q3, q4, q5, q6, q7]) rfl ?_
        have hle : w.heap.size ≤ w.heap.size + 2 := by omega
        refine ⟨⟨q, cap, sk, 16, rfl, ?_, unhide HCO, fun h0 => by first | (exact absurd h0 (by omega)) | exact unhide HST0⟩, ?_⟩
        · refine ((unhide HP5).row.kept' (fun y hy => ?_)).mono (by omega)
          have hge := (World.ownsRow.lt (unhide HP5).row y hy).1
          have hne : y ≠ w.heap.size + 2 := by omega
          exact (Below.heap_setCell _ _ _ _ hne).trans ((Below.heap_setCell _ _ _ _ hne).trans ((Below.heap_setCell _ _ _ _ hne).trans ((Below.heap_setCell _ _ _ _ hne).trans ((Below.heap_setCell _ _ _ _ hne).trans ((Below.heap_setCell _ _ _ _ hne).trans ((Below.heap_setCell _ _ _ _ hne).trans (Below.heap_setCell _ _ _ _ hne)))))))
        · exact Below.setCell (Below.setCell (Below.setCell (Below.setCell (Below.setCell (Below.setCell (Below.setCell (Below.setCell (unhide HW5) hle _) hle _) hle _) hle _) hle _) hle _) hle _) hle _
      rw [decide_eq_false hg]
      by_cases hm : nz < hM
      · have tm := decide_eq_true hm
        have a2 := (unhide HA5).cell (m := 2) rfl
        go_upto_region 9 with fail
        go_cut [46] (fun sv wx => sv = .bool fast ∧ Below W5.heap.size W5 wx)
        case first =>
          go_region_held3 (fun wx => wx.cell? ⟨A, 2, none⟩ = some (.int .i64 nz))
            (simp (maxDischargeDepth := 12) [go_sem, le1, lt1, *])
            (first
            | (go_at_call 38; refine (unhide HGM Wa.heap.size _ _ ((unhide HP5).bel (by repeat (first | exact Below.refl _ _ | refine bel_dn' ?_ _ | refine Below.drew ?_))) (own_bel (unhide HPS5) (by repeat (first | exact Below.refl _ _ | refine bel_dn' ?_ _ | refine Below.drew ?_))) (unhide HPV)).mono ?_; rintro x w' ⟨rfl, hs⟩; have hb := bel_of_same hs; have HBy := hide (show Below W5.heap.size W5 w' from bc (by repeat (first | exact Below.refl _ _ | refine bel_dn' ?_ _ | refine Below.drew ?_)) hb); have t0 := keep1 hb (b := A) (o := 2) (v := .int .i64 nz) (by simp (maxDischargeDepth := 12) [go_sem, le1, lt1, *]); clear hb hs))
          all_goals
            go_wp2_with fail
            go_meet
            case rel => exact ⟨by first | rfl | simp, (by repeat (first | exact unhide HBy | refine bel_dn' ?_ _ | refine Below.drew ?_))⟩
        case rest =>
        obtain ⟨rfl, hw6⟩ := hcut
        have HA6 := hide ((unhide HA5).bel hw6)
        have HP6 := hide ((unhide HP5).bel hw6)
        have HVP6 := hide ((unhide HVP5).bel hw6)
        have HVZ6 := hide ((unhide HVZ5).bel hw6)
        have HW6 := hide (bc (unhide HW5) hw6)
        have HPS6 := hide (show Pcs wc Wa.heap.size pv q 0 (pieces W H r nx ny) from own_bel (unhide HPS5) hw6)
        clear hw6 a2
        generalize hW6e : wc = W6 at *
        clear hW6e
        cases fast with
        | true =>
          have HWN : Hid (walkC P W H r true fx fy fz tx ty tz s (i + 1) = (17, sk)) := hide (by rw [unhide HWS, unhide HPC, if_neg hg, if_pos hm, if_pos rfl])
          have HCO : Hid ((17 : Int) = (walkC P W H r true fx fy fz tx ty tz s N).1) := hide (by rw [(unhide HSTi) (by rw [unhide HWN]; simp), unhide HWN])
          have p0 := (unhide HP6).v.cell (m := 0) rfl
          have p1 := (unhide HP6).v.cell (m := 1) rfl
          have p2 := (unhide HP6).v.cell (m := 2) rfl
          have p3 := (unhide HP6).v.cell (m := 3) rfl
          have p4 := (unhide HP6).v.cell (m := 4) rfl
          have p5 := (unhide HP6).v.cell (m := 5) rfl
          have p6 := (unhide HP6).v.cell (m := 6) rfl
          have p7 := (unhide HP6).v.cell (m := 7) rfl
          have q0 := (unhide HVZ6).cell (m := 0) rfl
          have q1 := (unhide HVZ6).cell (m := 1) rfl
          have q2 := (unhide HVZ6).cell (m := 2) rfl
          have q3 := (unhide HVZ6).cell (m := 3) rfl
          have q4 := (unhide HVZ6).cell (m := 4) rfl
          have q5 := (unhide HVZ6).cell (m := 5) rfl
          have q6 := (unhide HVZ6).cell (m := 6) rfl
          have q7 := (unhide HVZ6).cell (m := 7) rfl
          have zf := (unhide HVZ6).frozen
          go_wp2_with fail
          (try rw [Exit.noGoto_ret])
          refine bodyPost_ret (v := .tuple #[.agg (pnV e b W H q n cap sk).toArray, .int .i64 17]) (by simp [results, Try.results46, go_sem, pnV, p0, p1, p2, p3, p4, p5, p6, p7, q0, q1, q2, q3, q4, q5, q6, q7]) rfl ?_
          have hle : w.heap.size ≤ w.heap.size + 2 := by omega
          refine ⟨⟨q, cap, sk, 17, rfl, ?_, unhide HCO, fun h0 => by first | (exact absurd h0 (by omega)) | exact unhide HST0⟩, ?_⟩
          · refine ((unhide HP6).row.kept' (fun y hy => ?_)).mono (by omega)
            have hge := (World.ownsRow.lt (unhide HP6).row y hy).1
            have hne : y ≠ w.heap.size + 2 := by omega
            exact (Below.heap_setCell _ _ _ _ hne).trans ((Below.heap_setCell _ _ _ _ hne).trans ((Below.heap_setCell _ _ _ _ hne).trans ((Below.heap_setCell _ _ _ _ hne).trans ((Below.heap_setCell _ _ _ _ hne).trans ((Below.heap_setCell _ _ _ _ hne).trans ((Below.heap_setCell _ _ _ _ hne).trans (Below.heap_setCell _ _ _ _ hne)))))))
          · exact Below.setCell (Below.setCell (Below.setCell (Below.setCell (Below.setCell (Below.setCell (Below.setCell (Below.setCell (unhide HW6) hle _) hle _) hle _) hle _) hle _) hle _) hle _) hle _
        | false =>
          have HWN : Hid (walkC P W H r false fx fy fz tx ty tz s (i + 1) = (0, takeC nz sk (cols W H r nx ny))) := hide (by rw [unhide HWS, unhide HPC, if_neg hg, if_pos hm, if_neg (by simp)])
          have a2 := (unhide HA6).cell (m := 2) rfl
          go_upto_region 11 with fail
          go_cut [55] (fun sv wx => sv = .bool true ∧ Below W6.heap.size W6 wx)
          case first =>
            go_region_held3 (fun wx => wx.cell? ⟨A, 2, none⟩ = some (.int .i64 nz))
              (simp (maxDischargeDepth := 12) [go_sem, le1, lt1, *])
              (first
              | (go_at_call 38; refine (unhide HGM Wa.heap.size _ _ ((unhide HP6).bel (by repeat (first | exact Below.refl _ _ | refine bel_dn' ?_ _ | refine Below.drew ?_))) (own_bel (unhide HPS6) (by repeat (first | exact Below.refl _ _ | refine bel_dn' ?_ _ | refine Below.drew ?_))) (unhide HPV)).mono ?_; rintro x w' ⟨rfl, hs⟩; have hb := bel_of_same hs; have HBy := hide (show Below W6.heap.size W6 w' from bc (by repeat (first | exact Below.refl _ _ | refine bel_dn' ?_ _ | refine Below.drew ?_)) hb); have t0 := keep1 hb (b := A) (o := 2) (v := .int .i64 nz) (by simp (maxDischargeDepth := 12) [go_sem, le1, lt1, *]); clear hb hs))
            all_goals
              go_wp2_with fail
              go_meet
              case rel => exact ⟨by first | rfl | simp, (by repeat (first | exact unhide HBy | refine bel_dn' ?_ _ | refine Below.drew ?_))⟩
          case rest =>
          obtain ⟨rfl, hw7⟩ := hcut
          have HA7 := hide ((unhide HA6).bel hw7)
          have HP7 := hide ((unhide HP6).bel hw7)
          have HVP7 := hide ((unhide HVP6).bel hw7)
          have HVZ7 := hide ((unhide HVZ6).bel hw7)
          have HW7 := hide (bc (unhide HW6) hw7)
          have HPS7 := hide (show Pcs wc Wa.heap.size pv q 0 (pieces W H r nx ny) from own_bel (unhide HPS6) hw7)
          clear hw7 a2
          generalize hW7e : wc = W7 at *
          clear hW7e
          have a2 := (unhide HA7).cell (m := 2) rfl
          go_wp2_with fail
          refine (unhide HTK _ _ _ (unhide HP7) (unhide HPS7) (unhide HPV) (unhide HQA).1 (unhide HQA).2).mono ?_
          rintro x W8 ⟨rfl, hp8, hm8⟩
          have HP8 := hide hp8
          have HVP8 := hide ((unhide HVP7).mq hm8 (by omega) (by omega))
          have HVZ8 := hide ((unhide HVZ7).mq hm8 (by omega) (by omega))
          have HW8 : Hid (Below w.heap.size w W8) := hide ((unhide HW7).trans (hm8.belw (C := w.heap.size) (by have := (unhide HP7).v.lt; omega) (Nat.le_refl _) (by omega)))
          clear hp8 hm8 a2
          go_wp2_with fail
          go_roundw
          case rel => exact ⟨i + 1, by simp, h, rfl, by rw [unhide HWN], by rw [unhide HWN]; exact unhide HP8, unhide HVP8, unhide HVZ8, unhide HW8⟩
          case measure => simp only [intOf]; omega
      · have tm := decide_eq_false hm
        have a2 := (unhide HA5).cell (m := 2) rfl
        go_wp2_with fail
        refine Go.Code.wp_mono (Only.to (fun _ _ h => h)) (af9 (hM := hM) (nz := nz) (by omega) (hide a2) (hide fun X hX => ((unhide HGM) Wa.heap.size _ X ((unhide HP5).bel hX) (own_bel (unhide HPS5) hX) (unhide HPV)).mono (fun _ _ h => ⟨h.1, bel_of_same h.2⟩)) (fun wc hw6 => ?_))
        have HA6 := hide ((unhide HA5).bel hw6)
        have HP6 := hide ((unhide HP5).bel hw6)
        have HVP6 := hide ((unhide HVP5).bel hw6)
        have HVZ6 := hide ((unhide HVZ5).bel hw6)
        have HW6 := hide (bc (unhide HW5) hw6)
        have HPS6 := hide (show Pcs wc Wa.heap.size pv q 0 (pieces W H r nx ny) from own_bel (unhide HPS5) hw6)
        clear hw6 a2
        generalize hW6e : wc = W6 at *
        clear hW6e
        have a2 := (unhide HA6).cell (m := 2) rfl
        go_upto_region 11 with fail
        go_cut [55] (fun sv wx => sv = .bool false ∧ Below W6.heap.size W6 wx)
        case first =>
          go_region_held3 (fun wx => wx.cell? ⟨A, 2, none⟩ = some (.int .i64 nz))
            (simp (maxDischargeDepth := 12) [go_sem, le1, lt1, *])
            (first
            | (go_at_call 38; refine (unhide HGM Wa.heap.size _ _ ((unhide HP6).bel (by repeat (first | exact Below.refl _ _ | refine bel_dn' ?_ _ | refine Below.drew ?_))) (own_bel (unhide HPS6) (by repeat (first | exact Below.refl _ _ | refine bel_dn' ?_ _ | refine Below.drew ?_))) (unhide HPV)).mono ?_; rintro x w' ⟨rfl, hs⟩; have hb := bel_of_same hs; have HBy := hide (show Below W6.heap.size W6 w' from bc (by repeat (first | exact Below.refl _ _ | refine bel_dn' ?_ _ | refine Below.drew ?_)) hb); have t0 := keep1 hb (b := A) (o := 2) (v := .int .i64 nz) (by simp (maxDischargeDepth := 12) [go_sem, le1, lt1, *]); clear hb hs))
          all_goals
            go_wp2_with fail
            go_meet
            case rel => exact ⟨by first | rfl | simp, (by repeat (first | exact unhide HBy | refine bel_dn' ?_ _ | refine Below.drew ?_))⟩
        case rest =>
        obtain ⟨rfl, hw7⟩ := hcut
        have HA7 := hide ((unhide HA6).bel hw7)
        have HP7 := hide ((unhide HP6).bel hw7)
        have HVP7 := hide ((unhide HVP6).bel hw7)
        have HVZ7 := hide ((unhide HVZ6).bel hw7)
        have HW7 := hide (bc (unhide HW6) hw7)
        have HPS7 := hide (show Pcs wc Wa.heap.size pv q 0 (pieces W H r nx ny) from own_bel (unhide HPS6) hw7)
        clear hw7 a2
        generalize hW7e : wc = W7 at *
        clear hW7e
        cases fast with
        | true =>
          have HWN : Hid (walkC P W H r true fx fy fz tx ty tz s (i + 1) = (0, sk)) := hide (by rw [unhide HWS, unhide HPC, if_neg (show ¬ nz < hP by omega), if_neg (show ¬ nz < hM by omega), if_pos rfl])
          go_wp2_with fail
          go_roundw
          case rel => exact ⟨i + 1, by simp, h, rfl, by rw [unhide HWN], by rw [unhide HWN]; exact unhide HP7, unhide HVP7, unhide HVZ7, unhide HW7⟩
          case measure => simp only [intOf]; omega
        | false =>
          have HWN : Hid (walkC P W H r false fx fy fz tx ty tz s (i + 1) = (0, ⟨sk.T, sk.cut, sk.air + 1, sk.dep⟩)) := hide (by rw [unhide HWS, unhide HPC, if_neg (show ¬ nz < hP by omega), if_neg (show ¬ nz < hM by omega), if_neg (by simp)])
          have p6 := (unhide HP7).v.cell (m := 6) rfl
          have pf := (unhide HP7).v.frozen
          have wa : IntKind.i64.wrap (sk.air + 1) = sk.air + 1 := Go.IntWalk.i64_in _ ⟨by omega, by omega⟩
          have hq9 : w.heap.size ≠ q := by omega
          go_wp2_with fail
          go_roundw
          case rel => exact ⟨i + 1, by simp, h, rfl, by rw [unhide HWN], by rw [unhide HWN]; exact (unhide HP7).setAir hq9 (sk.air + 1), (unhide HVP7).ne (by omega), (unhide HVZ7).ne (by omega), Below.setCell (unhide HW7) (Nat.le_refl _) _⟩
          case measure => simp only [intOf]; omega
    · have lz : decide ((i : Int) < (N : Int)) = false := decide_eq_false (by omega)
      obtain rfl : i = N := by omega
      have HCO : Hid ((0 : Int) = (walkC P W H r fast fx fy fz tx ty tz s i).1) := hide (unhide HI0).symm
      have HST0 : Hid ((walkC P W H r fast fx fy fz tx ty tz s i).2 = (walkC P W H r fast fx fy fz tx ty tz s i).2) := hide rfl
      have p0 := (unhide HPi).v.cell (m := 0) rfl
      have p1 := (unhide HPi).v.cell (m := 1) rfl
      have p2 := (unhide HPi).v.cell (m := 2) rfl
      have p3 := (unhide HPi).v.cell (m := 3) rfl
      have p4 := (unhide HPi).v.cell (m := 4) rfl
      have p5 := (unhide HPi).v.cell (m := 5) rfl
      have p6 := (unhide HPi).v.cell (m := 6) rfl
      have p7 := (unhide HPi).v.cell (m := 7) rfl
      have q0 := (unhide HVZi).cell (m := 0) rfl
      have q1 := (unhide HVZi).cell (m := 1) rfl
      have q2 := (unhide HVZi).cell (m := 2) rfl
      have q3 := (unhide HVZi).cell (m := 3) rfl
      have q4 := (unhide HVZi).cell (m := 4) rfl
      have q5 := (unhide HVZi).cell (m := 5) rfl
      have q6 := (unhide HVZi).cell (m := 6) rfl
      have q7 := (unhide HVZi).cell (m := 7) rfl
      have zf := (unhide HVZi).frozen
      go_wp2_with fail
      (try rw [Exit.noGoto_ret])
      refine bodyPost_ret (v := .tuple #[.agg (pnV e b W H q n cap (walkC P W H r fast fx fy fz tx ty tz s i).2).toArray, .int .i64 0]) (by simp [results, Try.results46, go_sem, pnV, p0, p1, p2, p3, p4, p5, p6, p7, q0, q1, q2, q3, q4, q5, q6, q7]) rfl ?_
      have hle : w.heap.size ≤ w.heap.size + 2 := by omega
      refine ⟨⟨q, cap, (walkC P W H r fast fx fy fz tx ty tz s i).2, 0, rfl, ?_, unhide HCO, fun h0 => rfl⟩, ?_⟩
      · refine ((unhide HPi).row.kept' (fun y hy => ?_)).mono (by omega)
        have hge := (World.ownsRow.lt (unhide HPi).row y hy).1
        have hne : y ≠ w.heap.size + 2 := by omega
        exact (Below.heap_setCell _ _ _ _ hne).trans ((Below.heap_setCell _ _ _ _ hne).trans ((Below.heap_setCell _ _ _ _ hne).trans ((Below.heap_setCell _ _ _ _ hne).trans ((Below.heap_setCell _ _ _ _ hne).trans ((Below.heap_setCell _ _ _ _ hne).trans ((Below.heap_setCell _ _ _ _ hne).trans (Below.heap_setCell _ _ _ _ hne)))))))
      · exact Below.setCell (Below.setCell (Below.setCell (Below.setCell (Below.setCell (Below.setCell (Below.setCell (Below.setCell (unhide HWi) hle _) hle _) hle _) hle _) hle _) hle _) hle _) hle _
end Go.Proofs.Ytjhldjojkaphkaa

namespace Go.Proofs.Ytjhldjojkaphkaa
open Go.ChangeShapes Go.WideShapes Go.ChangeAt Go.RowKit
set_option linter.unusedVariables false
set_option linter.unusedSimpArgs false

theorem pl_info : (Try.prog.info? 73).map (fun i => (i.zero, i.size, i.bytes)) = some (some (.agg #[.int .i64 0, .int .i64 0, .int .i64 0]), 3, 24) := by kernel_rfl
theorem row_vb3 {X : World} {B b : Nat} {x y z : Int} (h : vb X b 73 [.int .i64 x, .int .i64 y, .int .i64 z]) (hB : B ≤ b) : Row X B 73 3 (.slice (some ⟨b, 0, none⟩) 1 1) 1 [x, y, z] :=
  ⟨by simp, .inr ⟨b, 1, #[.int .i64 x, .int .i64 y, .int .i64 z], rfl, hB, h, by omega, by unfold maxLen; omega, by simp, by simp⟩⟩
/-- how long a slice is -/
def slen : Value → Nat
  | .slice _ n _ => n
  | _ => 0
theorem Row.slen {w : World} {B t k n : Nat} {v : Value} {L : List Int} (h : Row w B t k v n L) : slen v = n := by
  obtain ⟨u, cap, rfl, _⟩ := h.form
  rfl
set_option maxHeartbeats 8000000 in
set_option maxRecDepth 100000 in
theorem ptP_any (fx fy fz tx ty tz : Int) (w : World) (hs : str fx fy fz tx ty tz) (hf : (0 ≤ fx ∧ fx ≤ 24) ∧ (0 ≤ fy ∧ fy ≤ 24) ∧ (0 ≤ fz ∧ fz ≤ 24)) (ht : (0 ≤ tx ∧ tx ≤ 24) ∧ (0 ≤ ty ∧ ty ≤ 24) ∧ (0 ≤ tz ∧ tz ≤ 24)) :
    Calls Try.prog 47 #[plW fx fy fz, plW tx ty tz] w fun e w' => (∃ v, e = .returned v ∧ v ≠ .slice none 0 0 ∧ Row w' w.heap.size 73 3 v (max (stN fx fy fz tx ty tz) 1) (wayF fx fy fz tx ty tz (max (stN fx fy fz tx ty tz) 1))) ∧ Below w.heap.size w w' := by
  have HB := hide (ba (ba (Below.refl w.heap.size w) (.cells #[.int .i64 fx, .int .i64 fy, .int .i64 fz] 73)) (.cells #[.int .i64 tx, .int .i64 ty, .int .i64 tz] 73))
  have v2 := vb_new1 w 73 [.int .i64 fx, .int .i64 fy, .int .i64 fz] (.cells #[.int .i64 tx, .int .i64 ty, .int .i64 tz] 73)
  have v3 := vb_new2 w 73 [.int .i64 tx, .int .i64 ty, .int .i64 tz] (.cells #[.int .i64 fx, .int .i64 fy, .int .i64 fz] 73)
  have HV2 := hide v2
  have HV3 := hide v3
  have he := fun W => eql68 fx fy fz tx ty tz W
  clear v2 v3
  obtain ⟨iP, hi1, hy0, hy1, hy2⟩ := info_parts pl_info
  by_cases h0 : fx = tx ∧ fy = ty ∧ fz = tz
  · obtain ⟨rfl, rfl, rfl⟩ := h0
    have eN : max (stN fx fy fz fx fy fz) 1 = 1 := by unfold stN; simp
    have eL : wayF fx fy fz fx fy fz 1 = [fx, fy, fz] := by simp [wayF, nth_still]
    rw [eN, eL]
    have he2 : ∀ W, (binOp .eql 73 (.agg #[.int .i64 fx, .int .i64 fy, .int .i64 fz]) (.agg #[.int .i64 fx, .int .i64 fy, .int .i64 fz])).run Try.prog W = .ok (.bool true) W := fun W => by have := he W; simpa using this
    clear he
    unfold plW
    go_enter Try.func47, Try.ntmps47
    go_wp2_with fail
    go_ret
    exact ⟨⟨_, rfl, by simp, row_vb3 (vb_new _ 73 [.int .i64 fx, .int .i64 fy, .int .i64 fz] _ (by simp)) (by omega)⟩, ba (unhide HB) _⟩
  · have he2 : ∀ W, (binOp .eql 73 (.agg #[.int .i64 fx, .int .i64 fy, .int .i64 fz]) (.agg #[.int .i64 tx, .int .i64 ty, .int .i64 tz])).run Try.prog W = .ok (.bool false) W := fun W => by have := he W; rw [decide_eq_false h0] at this; exact this
    clear he
    obtain ⟨⟨hf1, hf2⟩, ⟨hf3, hf4⟩, hf5, hf6⟩ := hf
    obtain ⟨⟨ht1, ht2⟩, ⟨ht3, ht4⟩, ht5, ht6⟩ := ht
    have hN1 : 1 ≤ stN fx fy fz tx ty tz := by unfold stN; omega
    have hN2 : stN fx fy fz tx ty tz ≤ 72 := by unfold stN; omega
    have eN : max (stN fx fy fz tx ty tz) 1 = stN fx fy fz tx ty tz := by omega
    rw [eN]
    have HSE := hide (str_end hs)
    have HSN := hide (fun i (hi : i < stN fx fy fz tx ty tz) => str_not hs hi)
    have HNB := hide (fun i (h1 : 1 ≤ i) (h2 : i ≤ stN fx fy fz tx ty tz) => nth_lo hs (i := i) (lo := 0) (hi' := 24) (by omega) h1)
    have w1 : IntKind.i64.wrap (tx - fx) = tx - fx := Go.IntWalk.i64_in _ ⟨by omega, by omega⟩
    have w2 : IntKind.i64.wrap (ty - fy) = ty - fy := Go.IntWalk.i64_in _ ⟨by omega, by omega⟩
    have w3 : IntKind.i64.wrap (tz - fz) = tz - fz := Go.IntWalk.i64_in _ ⟨by omega, by omega⟩
    obtain ⟨N, hN⟩ : ∃ N, stN fx fy fz tx ty tz = N := ⟨_, rfl⟩
    rw [hN] at hN1 hN2 HSE HSN HNB ⊢
    clear eN hN hs h0
    unfold plW
    go_enter Try.func47, Try.ntmps47
    go_upto_region 3 with fail
    generalize hWa : (w.alloc (.cells #[.int .i64 fx, .int .i64 fy, .int .i64 fz] 73)).alloc (.cells #[.int .i64 tx, .int .i64 ty, .int .i64 tz] 73) = Wa at *
    have HSW : Hid (Wa.heap.size = w.heap.size + 2) := hide (by rw [← hWa]; simp)
    have k0 := (unhide HV2).cell (m := 0) rfl
    have k1 := (unhide HV2).cell (m := 1) rfl
    have k2 := (unhide HV2).cell (m := 2) rfl
    have j0 := (unhide HV3).cell (m := 0) rfl
    have j1 := (unhide HV3).cell (m := 1) rfl
    have j2 := (unhide HV3).cell (m := 2) rfl
    have hlt1 := (unhide HV2).lt
    have hlt2 := (unhide HV3).lt
    clear hWa
    go_cut [5] (fun s5 wx => s5 = .pointer (some ⟨w.heap.size + 2, 0, none⟩) ∧ vb wx (w.heap.size + 2) 73 [.int .i64 (sg (tx - fx)), .int .i64 (sg (ty - fy)), .int .i64 (sg (tz - fz))] ∧ vb wx w.heap.size 73 [.int .i64 fx, .int .i64 fy, .int .i64 fz] ∧ vb wx (w.heap.size + 1) 73 [.int .i64 tx, .int .i64 ty, .int .i64 tz] ∧ Below w.heap.size w wx)
    case first =>
      go_region_held3 (fun wx => wx.cell? ⟨w.heap.size, 0, none⟩ = some (.int .i64 fx) ∧ wx.cell? ⟨w.heap.size, 1, none⟩ = some (.int .i64 fy) ∧ wx.cell? ⟨w.heap.size, 2, none⟩ = some (.int .i64 fz) ∧ wx.cell? ⟨w.heap.size + 1, 0, none⟩ = some (.int .i64 tx) ∧ wx.cell? ⟨w.heap.size + 1, 1, none⟩ = some (.int .i64 ty) ∧ wx.cell? ⟨w.heap.size + 1, 2, none⟩ = some (.int .i64 tz))
        (simp (maxDischargeDepth := 12) [go_sem, le1, lt1, *])
        (first
        | (go_at_call 81; refine (sgP_any _ _).mono ?_; rintro e w7 ⟨rfl, rfl⟩))
      all_goals
        go_wp2_with fail
        go_meet
        case rel => exact ⟨by rw [unhide HSW], by first | exact vb_new (w.alloc (.cells #[] 3)) 73 _ _ (by simp) | (rw [← unhide HSW]; exact vb_new Wa 73 [.int .i64 (sg (tx - fx)), .int .i64 (sg (ty - fy)), .int .i64 (sg (tz - fz))] _ rfl), (unhide HV2).bel (by repeat (first | exact Below.refl _ _ | refine ba ?_ _ | refine Below.drew ?_)), (unhide HV3).bel (by repeat (first | exact Below.refl _ _ | refine ba ?_ _ | refine Below.drew ?_)), by repeat (first | exact unhide HB | refine ba ?_ _ | refine Below.drew ?_)⟩
    case rest =>
      obtain ⟨rfl, hv5, hv2, hv3, hw⟩ := hcut
      have HV5 := hide hv5
      have HVa := hide hv2
      have HVb := hide hv3
      have HW := hide hw
      clear hv5 hv2 hv3 hw HV2 HV3 HB HSW k0 k1 k2 j0 j1 j2 hlt1 hlt2 he2
      go_wp2_with fail
      go_loopw [6] (fun z6 X => ∃ i : Nat, i ≤ N ∧ (i ≠ 0 → z6 ≠ .slice none 0 0) ∧ Row X (w.heap.size + 3) 73 3 z6 i (wayF fx fy fz tx ty tz i) ∧ vb X w.heap.size 73 [.int .i64 (nth fx tx i), .int .i64 (nth fy ty i), .int .i64 (nth fz tz i)] ∧ vb X (w.heap.size + 1) 73 [.int .i64 tx, .int .i64 ty, .int .i64 tz] ∧ vb X (w.heap.size + 2) 73 [.int .i64 (sg (tx - fx)), .int .i64 (sg (ty - fy)), .int .i64 (sg (tz - fz))] ∧ Below w.heap.size w X) (fun z6 _ => N - slen z6)
      case atStart => exact ⟨0, Nat.zero_le _, fun h => absurd rfl h, ⟨rfl, .inl ⟨rfl, rfl⟩⟩, by rw [nth_zero, nth_zero, nth_zero]; exact unhide HVa, unhide HVb, unhide HV5, unhide HW⟩
      case round =>
        obtain ⟨i, hi, hz6, hro, hva, hvb, hv5, hw⟩ := hrel
        have HZ6 := hide hz6
        have HRO := hide hro
        have HSL := hide hro.slen
        have k0 := hva.cell (m := 0) rfl
        have k1 := hva.cell (m := 1) rfl
        have k2 := hva.cell (m := 2) rfl
        have j0 := hvb.cell (m := 0) rfl
        have j1 := hvb.cell (m := 1) rfl
        have j2 := hvb.cell (m := 2) rfl
        have s0 := hv5.cell (m := 0) rfl
        have s1 := hv5.cell (m := 1) rfl
        have s2 := hv5.cell (m := 2) rfl
        have HVA := hide hva
        have HVB := hide hvb
        have HVC := hide hv5
        have HWW := hide hw
        have hn68 := fun W => neq68 (nth fx tx i) (nth fy ty i) (nth fz tz i) tx ty tz W
        clear hz6 hro hva hvb hv5 hw
        by_cases h : i < N
        · rw [decide_eq_false ((unhide HSN) i h)] at hn68
          simp only [Bool.not_false] at hn68
          obtain ⟨n1, n2, n3⟩ := (unhide HNB) (i + 1) (by omega) (by omega)
          have n1 := n1 ⟨hf1, hf2⟩ ⟨ht1, ht2⟩
          have n2 := n2 ⟨hf3, hf4⟩ ⟨ht3, ht4⟩
          have n3 := n3 ⟨hf5, hf6⟩ ⟨ht5, ht6⟩
          have HPL := hide (fun X => plW_any (nth fx tx i) (nth fy ty i) (nth fz tz i) (sg (tx - fx)) (sg (ty - fy)) (sg (tz - fz)) X (by rw [← nth_succ, ← nth_succ, ← nth_succ]; omega))
          rw [← nth_succ, ← nth_succ, ← nth_succ] at HPL
          have HWF : Hid (wayF fx fy fz tx ty tz (i + 1) = wayF fx fy fz tx ty tz i ++ [nth fx tx (i + 1), nth fy ty (i + 1), nth fz tz (i + 1)]) := hide rfl
          obtain ⟨x1, hx1⟩ : ∃ x1, nth fx tx (i + 1) = x1 := ⟨_, rfl⟩
          obtain ⟨x2, hx2⟩ : ∃ x2, nth fy ty (i + 1) = x2 := ⟨_, rfl⟩
          obtain ⟨x3, hx3⟩ : ∃ x3, nth fz tz (i + 1) = x3 := ⟨_, rfl⟩
          rw [hx1, hx2, hx3] at HPL HWF
          have HX := hide (And.intro hx1 (And.intro hx2 hx3))
          unfold plW at HPL
          clear n1 n2 n3 hx1 hx2 hx3
          go_wp2_with fail
          refine (unhide HPL _).mono ?_
          rintro e W2 ⟨rfl, hb2⟩
          have va := (unhide HVA).bel hb2
          have k0 := va.cell (m := 0) rfl
          have k1 := va.cell (m := 1) rfl
          have k2 := va.cell (m := 2) rfl
          have kf := va.frozen
          have HVA2 := hide va
          have HVB2 := hide ((unhide HVB).bel hb2)
          have HVC2 := hide ((unhide HVC).bel hb2)
          have HRO2 := hide ((unhide HRO).below hb2)
          have HWW2 := hide (bc (unhide HWW) hb2)
          clear hb2 va s0 s1 s2 j0 j1 j2 hn68
          go_wp2_with (at_builtin; refine unhide ?_)
          have HA3 : Hid (vb (((W2.setCell ⟨w.heap.size, 0, none⟩ (.int .i64 x1)).setCell ⟨w.heap.size, 1, none⟩ (.int .i64 x2)).setCell ⟨w.heap.size, 2, none⟩ (.int .i64 x3)) w.heap.size 73 [.int .i64 x1, .int .i64 x2, .int .i64 x3]) := hide ((((unhide HVA2).set 0 _).set 1 _).set 2 _)
          have HB3 : Hid (vb (((W2.setCell ⟨w.heap.size, 0, none⟩ (.int .i64 x1)).setCell ⟨w.heap.size, 1, none⟩ (.int .i64 x2)).setCell ⟨w.heap.size, 2, none⟩ (.int .i64 x3)) (w.heap.size + 1) 73 [.int .i64 tx, .int .i64 ty, .int .i64 tz]) := hide ((((unhide HVB2).ne (by omega)).ne (by omega)).ne (by omega))
          have HC3 : Hid (vb (((W2.setCell ⟨w.heap.size, 0, none⟩ (.int .i64 x1)).setCell ⟨w.heap.size, 1, none⟩ (.int .i64 x2)).setCell ⟨w.heap.size, 2, none⟩ (.int .i64 x3)) (w.heap.size + 2) 73 [.int .i64 (sg (tx - fx)), .int .i64 (sg (ty - fy)), .int .i64 (sg (tz - fz))]) := hide ((((unhide HVC2).ne (by omega)).ne (by omega)).ne (by omega))
          have HR3 : Hid (Row (((W2.setCell ⟨w.heap.size, 0, none⟩ (.int .i64 x1)).setCell ⟨w.heap.size, 1, none⟩ (.int .i64 x2)).setCell ⟨w.heap.size, 2, none⟩ (.int .i64 x3)) (w.heap.size + 3) 73 3 u6 i (wayF fx fy fz tx ty tz i)) := hide ((unhide HRO2).kept' (fun b hb => by
            have h1 := (World.ownsRow.lt (unhide HRO2) b hb).1
            have hne : b ≠ w.heap.size := by omega
            exact (Below.heap_setCell _ _ _ _ hne).trans ((Below.heap_setCell _ _ _ _ hne).trans (Below.heap_setCell _ _ _ _ hne))))
          have HW3 : Hid (Below w.heap.size w (((W2.setCell ⟨w.heap.size, 0, none⟩ (.int .i64 x1)).setCell ⟨w.heap.size, 1, none⟩ (.int .i64 x2)).setCell ⟨w.heap.size, 2, none⟩ (.int .i64 x3))) := hide (Below.setCell (Below.setCell (Below.setCell (unhide HWW2) (Nat.le_refl _) _) (Nat.le_refl _) _) (Nat.le_refl _) _)
          have HSZ : Hid (w.heap.size + 3 ≤ (((W2.setCell ⟨w.heap.size, 0, none⟩ (.int .i64 x1)).setCell ⟨w.heap.size, 1, none⟩ (.int .i64 x2)).setCell ⟨w.heap.size, 2, none⟩ (.int .i64 x3)).heap.size) := hide ((unhide HC3).lt)
          have HSW3 : Hid (W2.heap.size = (((W2.setCell ⟨w.heap.size, 0, none⟩ (.int .i64 x1)).setCell ⟨w.heap.size, 1, none⟩ (.int .i64 x2)).setCell ⟨w.heap.size, 2, none⟩ (.int .i64 x3)).heap.size) := hide (by simp [World.setCell])
          generalize ((W2.setCell ⟨w.heap.size, 0, none⟩ (.int .i64 x1)).setCell ⟨w.heap.size, 1, none⟩ (.int .i64 x2)).setCell ⟨w.heap.size, 2, none⟩ (.int .i64 x3) = W3 at *
          clear HVA2 HVB2 HVC2 HRO2 HWW2 k0 k1 k2 kf
          refine hide ?_
          refine wpList_append_own _ rfl _ _ 84 rfl (w.heap.size + 3) 73 iP _ 3 24 Try.underlying84 hi1 hy0 hy1 hy2 rfl (by decide) _ i ((wayF fx fy fz tx ty tz i).map (Value.int .i64)) rfl ((unhide HR3).alloc _) _ 1 1 ([x1, x2, x3].map (Value.int .i64)) rfl rfl (by first | exact news_cells _ _ (unhide HSW3) | exact news_cells _ _ rfl) ints_one (by unfold maxLen; omega) (by omega) (by first | (have := unhide HSZ; omega) | (have := unhide HSZ; simp; omega)) ?_
          intro v1 w1 hown' hgrow hvn1
          have R1 := own_more (wr := W3) (news := [x1, x2, x3]) (by repeat (first | exact Below.refl _ _ | refine Below.alloc ?_ (by first | exact unhide HSZ | (simp; exact unhide HSZ)) _ | refine Below.drew ?_)) (by first | exact Nat.le_trans (unhide HSZ) (by simp) | (have := unhide HSZ; simp; omega) | (have := unhide HSZ; omega)) (unhide HR3) hown' hgrow
          have HR6 := hide R1.1
          have HS6 := hide R1.1.slen
          have HN6 : Hid (v1 ≠ .slice none 0 0) := hide (fun e => by have := (hvn1.1 e).2; omega)
          have HA6 := hide ((unhide HA3).below R1.2 (by omega))
          have HB6 := hide ((unhide HB3).below R1.2 (by omega))
          have HC6 := hide ((unhide HC3).below R1.2 (by omega))
          have HW6 := hide ((unhide HW3).trans (R1.2.mono (by omega)))
          clear hown' hgrow hvn1 R1
          go_wp2_with fail
          go_roundw
          case rel =>
            obtain ⟨e1, e2, e3⟩ := unhide HX
            exact ⟨i + 1, h, fun _ => unhide HN6, by rw [unhide HWF]; exact unhide HR6, by rw [e1, e2, e3]; exact unhide HA6, unhide HB6, unhide HC6, unhide HW6⟩
          case measure =>
            have h1 := unhide HS6
            have h2 := unhide HSL
            show N - slen v1 < N - slen u6
            omega
        · have eN : i = N := by omega
          subst eN
          rw [decide_eq_true (unhide HSE)] at hn68
          simp only [Bool.not_true] at hn68
          go_wp2_with fail
          go_ret
          exact ⟨⟨_, rfl, (unhide HZ6) (by omega), (unhide HRO).mono (by omega)⟩, unhide HWW⟩
end Go.Proofs.Ytjhldjojkaphkaa

namespace Go.Proofs.Ytjhldjojkaphkaa
open Go.ChangeShapes Go.WideShapes Go.ChangeAt Go.RowKit
set_option linter.unusedVariables false
set_option linter.unusedSimpArgs false

theorem boxs (w : World) (W H : Int) (u : Option Addr) (n c : Nat) (W' H' : Int) (u' : Option Addr) (n' c' : Nat) :
    Below w.heap.size w ((w.alloc (.cells #[.int .i64 W, .int .i64 H, .slice u n c] 25)).alloc (.cells #[.int .i64 W', .int .i64 H', .slice u' n' c'] 25)) := ba (ba (Below.refl _ _) _) _
set_option maxHeartbeats 1000000 in
theorem rfP_any (W H : Int) (u : Option Addr) (p po n c : Nat) (A : List Int) (W' H' : Int) (u' : Option Addr) (p' po' n' c' : Nat) (B : List Int) (w : World)
    (hl : A.length = n) (hn : n ≤ 9223372036854775807) (hu : Its w u p po A) (hl' : B.length = n') (hn' : n' ≤ 9223372036854775807) (hu' : Its w u' p' po' B) :
    Calls Try.prog 50 #[fldV W H u n c, fldV W' H' u' n' c'] w fun e w' => e = .returned (.bool (pairB W H A W' H' B)) ∧ Below w.heap.size w w' := by
  have HS := hide (pairB_split W H A W' H' B)
  have HB := hide (boxs w W H u n c W' H' u' n' c')
  have HA := hide (fun X (hX : Below w.heap.size w X) => fokP_any W H u p po n c A X hl hn (hu.bel hX))
  have HC := hide (fun X (hX : Below w.heap.size w X) => fokP_any W' H' u' p' po' n' c' B X hl' hn' (hu'.bel hX))
  have hv := (vb_new2 w 25 [.int .i64 W', .int .i64 H', .slice u' n' c'] (.cells #[.int .i64 W, .int .i64 H, .slice u n c] 25))
  have hv0 := (vb_new1 w 25 [.int .i64 W, .int .i64 H, .slice u n c] (.cells #[.int .i64 W', .int .i64 H', .slice u' n' c'] 25))
  have HV := hide hv
  have HV0 := hide hv0
  clear hl hl' hu hu' hv hv0
  unfold fldV at *
  generalize fokB W H A = ba at *
  generalize fokB W' H' B = bb at *
  go_enter Try.func50, Try.ntmps50
  go_wp2_with fail
  refine (unhide HA _ (unhide HB)).mono ?_
  rintro e W1 ⟨rfl, hb1⟩
  have v1 := (unhide HV).bel hb1
  have k0 := v1.cell (m := 0) rfl
  have k1 := v1.cell (m := 1) rfl
  have k2 := v1.cell (m := 2) rfl
  have HV1 := hide v1
  have HV01 := hide ((unhide HV0).bel hb1)
  have HB1 := hide (bc (unhide HB) hb1)
  clear hb1 v1
  cases ba with
  | false =>
    go_wp2_with fail
    go_ret
    exact ⟨by rw [unhide HS]; first | done | rfl | simp, unhide HB1⟩
  | true =>
    go_wp2_with fail
    refine (unhide HC _ (unhide HB1)).mono ?_
    rintro e W2 ⟨rfl, hb2⟩
    have v1 := (unhide HV1).bel hb2
    have j0 := v1.cell (m := 0) rfl
    have j1 := v1.cell (m := 1) rfl
    have v2 := (unhide HV01).bel hb2
    have i0 := v2.cell (m := 0) rfl
    have i1 := v2.cell (m := 1) rfl
    have HB2 := hide (bc (unhide HB1) hb2)
    clear hb2 v1 v2 k0 k1 k2
    cases bb with
    | false =>
      go_wp2_with fail
      go_ret
      exact ⟨by rw [unhide HS]; first | done | rfl | simp, unhide HB2⟩
    | true =>
      by_cases e1 : W = W'
      · have t1 : (W == W') = true := by simp [e1]
        have HE1 := hide e1
        clear e1
        by_cases e2 : H = H'
        · have t2 : (H == H') = true := by simp [e2]
          have HE2 := hide e2
          clear e2
          go_wp2_with fail
          go_ret
          exact ⟨by rw [unhide HS, decide_eq_true (unhide HE1), decide_eq_true (unhide HE2)]; first | done | rfl | simp, unhide HB2⟩
        · have t2 : (H == H') = false := by simp [e2]
          have HE2 := hide e2
          clear e2
          go_wp2_with fail
          go_ret
          exact ⟨by rw [unhide HS, decide_eq_false (unhide HE2)]; first | done | rfl | simp, unhide HB2⟩
      · have t1 : (W == W') = false := by simp [e1]
        have HE1 := hide e1
        clear e1
        go_wp2_with fail
        go_ret
        exact ⟨by rw [unhide HS, decide_eq_false (unhide HE1)]; first | done | rfl | simp, unhide HB2⟩
set_option maxHeartbeats 2000000 in
theorem rsP_any (W H : Int) (u : Option Addr) (p po n c : Nat) (A : List Int) (W' H' : Int) (u' : Option Addr) (p' po' n' c' : Nat) (B : List Int) (w : World)
    (hl : A.length = n) (hn : n ≤ 9223372036854775807) (hu : Its w u p po A) (hl' : B.length = n') (hn' : n' ≤ 9223372036854775807) (hu' : Its w u' p' po' B) :
    Calls Try.prog 14 #[fldV W H u n c, fldV W' H' u' n' c'] w fun e w' => e = .returned (.tuple #[.int .i64 (restS W H A W' H' B), .int .i64 (restC W H A W' H' B)]) ∧ Below w.heap.size w w' := by
  have HB := hide (boxs w W H u n c W' H' u' n' c')
  have HF := hide (fun X (hX : Below w.heap.size w X) => rfP_any W H u p po n c A W' H' u' p' po' n' c' B X hl hn (hu.bel hX) hl' hn' (hu'.bel hX))
  have HV := hide (vb_new2 w 25 [.int .i64 W', .int .i64 H', .slice u' n' c'] (.cells #[.int .i64 W, .int .i64 H, .slice u n c] 25))
  have HV0 := hide (vb_new1 w 25 [.int .i64 W, .int .i64 H, .slice u n c] (.cells #[.int .i64 W', .int .i64 H', .slice u' n' c'] 25))
  have HUA0 := hide hu
  have HUB0 := hide hu'
  have HLA := hide hl
  have HLB := hide hl'
  have n0 : (0 : Int) ≤ (n : Int) := Int.natCast_nonneg _
  by_cases hp : FPair W H A W' H' B
  · rw [show pairB W H A W' H' B = true from decide_eq_true hp] at HF
    have HP := hide hp
    have HRB := hide (rsum_bound hp.a.tops_tp hp.b.tops_tp)
    have HLE : Hid (n' = n) := hide (by have := hp.len; omega)
    have HNS : Hid (n ≤ 576) := hide (by have := hp.a.small; omega)
    have HTA := hide hp.a.tops_tp
    have HTB := hide hp.b.tops_tp
    have HRS : Hid (restS W H A W' H' B = rsum A B n) := hide (by unfold restS; rw [if_pos hp, hl])
    have HRC : Hid (restC W H A W' H' B = 0) := hide (by unfold restC; rw [if_pos hp])
    clear hp hl hl' hu hu'
    unfold fldV at *
    go_enter Try.func14, Try.ntmps14
    go_wp2_with fail
    refine (unhide HF _ (unhide HB)).mono ?_
    rintro e W0 ⟨rfl, hb1⟩
    have HVB := hide ((unhide HV).bel hb1)
    have v1 := (unhide HV0).bel hb1
    have k2 := v1.cell (m := 2) rfl
    have HVA := hide v1
    have HBB := hide (bc (unhide HB) hb1)
    have HUA := hide ((unhide HUA0).bel (unhide HBB))
    have HUB := hide ((unhide HUB0).bel (unhide HBB))
    clear hb1 v1
    go_wp2_with fail
    skip
    go_loopw [6, 16] (fun zs z X => ∃ i : Nat, z = .int .i64 (i : Int) ∧ i ≤ n ∧ zs = .int .i64 (rsum A B i) ∧ Below W0.heap.size W0 X) (fun _ z _ => n - (intOf z).toNat)
    case atStart => exact ⟨0, rfl, Nat.zero_le _, rfl, Below.refl _ _⟩
    case round =>
      obtain ⟨i, rfl, hi, rfl, hw⟩ := hrel
      have v1 := (unhide HVA).bel hw
      have k2 := v1.cell (m := 2) rfl
      have v2 := (unhide HVB).bel hw
      have l2 := v2.cell (m := 2) rfl
      have HWW := hide hw
      clear hw v1 v2
      by_cases h : i < n
      · have i1 : (i : Int) < (n : Int) := by omega
        have i0 : (0 : Int) ≤ (i : Int) := Int.natCast_nonneg _
        have iz : decide ((i : Int) < (n : Int)) = true := decide_eq_true i1
        have hle := unhide HLE
        have i2 : (i : Int) < (n' : Int) := by omega
        have hxa := tp_at (T := A) (i := i) (by have := unhide HLA; omega)
        have hxb := tp_at (T := B) (i := i) (by have := unhide HLB; omega)
        obtain ⟨rfl, pw, c0⟩ := ((unhide HUA).bel (unhide HWW)).at hxa
        obtain ⟨rfl, qw, d0⟩ := ((unhide HUB).bel (unhide HWW)).at hxb
        have HRN : Hid (rsum A B (i + 1) = rsum A B i + max (tp A i - tp B i) 0) := hide rfl
        have hra := (unhide HTA) i
        have hrb := (unhide HTB) i
        have hrr := (unhide HRB) i
        have hns := unhide HNS
        generalize tp A i = x at *
        generalize tp B i = y at *
        generalize rsum A B i = rs at *
        have w1 : IntKind.i64.wrap (x - y) = x - y := Go.IntWalk.i64_in _ ⟨by omega, by omega⟩
        have w2 : IntKind.i64.wrap (rs + max (x - y) 0) = rs + max (x - y) 0 := Go.IntWalk.i64_in _ ⟨by omega, by omega⟩
        have w3 : IntKind.i64.wrap (rs + max 0 (x - y)) = rs + max 0 (x - y) := Go.IntWalk.i64_in _ ⟨by omega, by omega⟩
        clear pw qw hxa hxb hle
        go_wp2_with fail

        go_roundw
        case rel => exact ⟨i + 1, by simp, h, by rw [unhide HRN]; first | done | rfl | (congr 1; omega) | (simp only [Value.int.injEq, true_and]; omega), by repeat (first | exact unhide HWW | refine bel_dn' ?_ _ | refine Below.drew ?_)⟩
        case measure => simp only [intOf]; omega
      · have iz : decide ((i : Int) < (n : Int)) = false := decide_eq_false (by omega)
        obtain rfl : i = n := by omega
        go_wp2_with fail
        refine bodyPost_ret (v := .tuple #[.int .i64 (rsum A B i), .int .i64 0]) (by simp [results, Try.results14, go_sem]) rfl ⟨by rw [unhide HRS, unhide HRC], bc (unhide HBB) (unhide HWW)⟩
  · rw [show pairB W H A W' H' B = false from decide_eq_false hp] at HF
    have HRS : Hid (restS W H A W' H' B = 0) := hide (by unfold restS; rw [if_neg hp])
    have HRC : Hid (restC W H A W' H' B = 1) := hide (by unfold restC; rw [if_neg hp])
    clear hp hl hl' hu hu'
    unfold fldV at *
    go_enter Try.func14, Try.ntmps14
    go_wp2_with fail
    refine (unhide HF _ (unhide HB)).mono ?_
    rintro e W0 ⟨rfl, hb1⟩
    have HBB := hide (bc (unhide HB) hb1)
    clear hb1
    go_wp2_with fail
    exact bodyPost_ret (v := .tuple #[.int .i64 0, .int .i64 1]) (by simp [results, Try.results14, go_sem]) rfl ⟨by rw [unhide HRS, unhide HRC], unhide HBB⟩
end Go.Proofs.Ytjhldjojkaphkaa

namespace Go.Proofs.Ytjhldjojkaphkaa
open Go.ChangeShapes Go.WideShapes Go.ChangeAt Go.RowKit
set_option linter.unusedVariables false
set_option linter.unusedSimpArgs false

theorem tlM_any (r : Int) (w : World) : Calls Try.prog 68 #[.int .i64 r] w fun e w' => e = .returned (.bool (decide (0 ≤ r) && decide (r ≤ 3))) ∧ w' = w := by
  by_cases h1 : 0 ≤ r
  · by_cases h2 : r ≤ 3
    · have t1 := decide_eq_true h1
      have t2 := decide_eq_true h2
      go_enter Try.func68, Try.ntmps68
      go_wp2_with fail
      go_ret
      exact ⟨by simp [h1, h2], rfl⟩
    · have t1 := decide_eq_true h1
      have t2 := decide_eq_false h2
      go_enter Try.func68, Try.ntmps68
      go_wp2_with fail
      go_ret
      exact ⟨by simp [h1, h2], rfl⟩
  · have t1 := decide_eq_false h1
    go_enter Try.func68, Try.ntmps68
    go_wp2_with fail
    go_ret
    exact ⟨by simp [h1], rfl⟩
theorem mins_take (O : List Int) {cs : List Nat} {i c : Nat} (v : Int) (h : cs[i]? = some c) : mins O (cs.take (i + 1)) v = (mins O (cs.take i) v).set c (min (tp (mins O (cs.take i) v) c) v) := by
  rw [List.take_add_one, h]
  exact mins_snoc _ _ _ _
end Go.Proofs.Ytjhldjojkaphkaa

namespace Go.Proofs.Ytjhldjojkaphkaa
open Go.ChangeShapes Go.WideShapes Go.ChangeAt Go.RowKit
set_option linter.unusedVariables false
set_option linter.unusedSimpArgs false

/-- no column of the part is above the stock's -/
def under (S P : List Int) : Bool := (List.range P.length).all fun i => decide (tp P i ≤ tp S i)
def stB (W H : Int) (S : List Int) (W' H' : Int) (P : List Int) : Bool := pairB W H S W' H' P && under S P
theorem Same.dnx {a w : World} (h : Same a w) (n : Nat) : Same a (w.drewN n) := ⟨h.os, h.tape, h.output, h.heap⟩
theorem under_iff {S P : List Int} : under S P = true ↔ ∀ i, i < P.length → tp P i ≤ tp S i := by
  unfold under
  rw [List.all_eq_true]
  simp
theorem under_no {S P : List Int} {i : Nat} (hi : i < P.length) (h : ¬ tp P i ≤ tp S i) : under S P = false := by
  rw [Bool.eq_false_iff]
  intro hu
  exact h (under_iff.1 hu i hi)
set_option maxHeartbeats 2000000 in
theorem stP_any (W H : Int) (u : Option Addr) (p po n c : Nat) (A : List Int) (W' H' : Int) (u' : Option Addr) (p' po' n' c' : Nat) (B : List Int) (w : World)
    (hl : A.length = n) (hn : n ≤ 9223372036854775807) (hu : Its w u p po A) (hl' : B.length = n') (hn' : n' ≤ 9223372036854775807) (hu' : Its w u' p' po' B) :
    Calls Try.prog 34 #[fldV W H u n c, fldV W' H' u' n' c'] w fun e w' => e = .returned (.bool (stB W H A W' H' B)) ∧ Below w.heap.size w w' := by
  have HB := hide (boxs w W H u n c W' H' u' n' c')
  have HF := hide (fun X (hX : Below w.heap.size w X) => rfP_any W H u p po n c A W' H' u' p' po' n' c' B X hl hn (hu.bel hX) hl' hn' (hu'.bel hX))
  have HV := hide (vb_new2 w 25 [.int .i64 W', .int .i64 H', .slice u' n' c'] (.cells #[.int .i64 W, .int .i64 H, .slice u n c] 25))
  have HV0 := hide (vb_new1 w 25 [.int .i64 W, .int .i64 H, .slice u n c] (.cells #[.int .i64 W', .int .i64 H', .slice u' n' c'] 25))
  have HUA0 := hide hu
  have HUB0 := hide hu'
  have HLA := hide hl
  have HLB := hide hl'
  have n0 : (0 : Int) ≤ (n' : Int) := Int.natCast_nonneg _
  by_cases hp : FPair W H A W' H' B
  · rw [show pairB W H A W' H' B = true from decide_eq_true hp] at HF
    have HSE : Hid (stB W H A W' H' B = under A B) := hide (by unfold stB; rw [show pairB W H A W' H' B = true from decide_eq_true hp, Bool.true_and])
    have HLE : Hid (n' = n) := hide (by have := hp.len; omega)
    have HNS : Hid (n ≤ 576) := hide (by have := hp.a.small; omega)
    clear hp hl hl' hu hu'
    unfold fldV at *
    go_enter Try.func34, Try.ntmps34
    go_wp2_with fail
    refine (unhide HF _ (unhide HB)).mono ?_
    rintro e W0 ⟨rfl, hb1⟩
    have v1 := (unhide HV).bel hb1
    have l2 := v1.cell (m := 2) rfl
    have HVB := hide v1
    have HVA := hide ((unhide HV0).bel hb1)
    have HBB := hide (bc (unhide HB) hb1)
    have HUA := hide ((unhide HUA0).bel (unhide HBB))
    have HUB := hide ((unhide HUB0).bel (unhide HBB))
    have hns : n' ≤ 576 := by have := unhide HNS; have := unhide HLE; omega
    clear hb1 v1
    go_wp2_with fail
    go_loopw [14] (fun z X => ∃ i : Nat, z = .int .i64 (i : Int) ∧ i ≤ n' ∧ (∀ j, j < i → tp B j ≤ tp A j) ∧ Same W0 X) (fun z _ => n' - (intOf z).toNat)
    case atStart => exact ⟨0, rfl, Nat.zero_le _, fun j hj => by omega, Same.refl _⟩
    case round =>
      obtain ⟨i, rfl, hi, hall, hw⟩ := hrel
      have HAL := hide hall
      have k2 := (unhide HVA).cell (m := 2) rfl
      rw [← hw.cell] at k2
      by_cases h : i < n'
      · have i1 : (i : Int) < (n' : Int) := by omega
        have i0 : (0 : Int) ≤ (i : Int) := Int.natCast_nonneg _
        have iz : decide ((i : Int) < (n' : Int)) = true := decide_eq_true i1
        have i2 : (i : Int) < (n : Int) := by have := unhide HLE; omega
        have hxa := tp_at (T := A) (i := i) (by have := unhide HLA; omega)
        have hxb := tp_at (T := B) (i := i) (by have := unhide HLB; omega)
        obtain ⟨rfl, pw, c0⟩ := (unhide HUA).at hxa
        obtain ⟨rfl, qw, d0⟩ := (unhide HUB).at hxb
        rw [← hw.cell] at c0 d0
        have HW := hide hw
        clear pw qw hxa hxb hw hall l2
        by_cases hlt : tp A i < tp B i
        · have HU : Hid (under A B = false) := hide (under_no (S := A) (P := B) (i := i) (by have := unhide HLB; omega) (by omega))
          generalize tp A i = x at *
          generalize tp B i = y at *
          have t1 := decide_eq_true hlt
          go_wp2_with fail
          first | go_quiet (fail) | skip
          go_wp2_with fail
          go_ret
          exact ⟨by rw [unhide HSE, unhide HU]; first | done | rfl, by repeat (first | exact bc (unhide HBB) (unhide HW).bel | refine bel_dn' ?_ _ | refine Below.drew ?_)⟩
        · have HNX : Hid (∀ j, j < i + 1 → tp B j ≤ tp A j) := hide (fun j hj => by
            by_cases e : j = i
            · subst e; omega
            · exact (unhide HAL) j (by omega))
          generalize tp A i = x at *
          generalize tp B i = y at *
          have t1 := decide_eq_false hlt
          go_wp2_with fail
          first | go_quiet (fail) | skip
          go_wp2_with fail
          go_roundw
          case rel => exact ⟨i + 1, by simp, h, unhide HNX, by repeat (first | exact unhide HW | refine Same.dnx ?_ _ | refine Same.drew ?_)⟩
          case measure => simp only [intOf]; omega
      · have iz : decide ((i : Int) < (n' : Int)) = false := decide_eq_false (by omega)
        have HU : Hid (under A B = true) := hide (under_iff.2 (fun j hj => (unhide HAL) j (by have := unhide HLB; omega)))
        have HW := hide hw
        clear hw hall
        go_wp2_with fail
        go_ret
        exact ⟨by rw [unhide HSE, unhide HU]; first | done | rfl, bc (unhide HBB) (unhide HW).bel⟩
  · rw [show pairB W H A W' H' B = false from decide_eq_false hp] at HF
    have HSE : Hid (stB W H A W' H' B = false) := hide (by unfold stB; rw [show pairB W H A W' H' B = false from decide_eq_false hp, Bool.false_and])
    clear hp hl hl' hu hu'
    unfold fldV at *
    go_enter Try.func34, Try.ntmps34
    go_wp2_with fail
    refine (unhide HF _ (unhide HB)).mono ?_
    rintro e W0 ⟨rfl, hb1⟩
    have HBB := hide (bc (unhide HB) hb1)
    clear hb1
    go_wp2_with fail
    go_ret
    exact ⟨by rw [unhide HSE]; first | done | rfl, unhide HBB⟩
end Go.Proofs.Ytjhldjojkaphkaa
