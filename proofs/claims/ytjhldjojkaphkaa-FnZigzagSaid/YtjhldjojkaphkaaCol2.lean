/-
  slices.Collect over an iterator of points: a row of its own that has just what comes.
-/
import Derived.Test.YtjhldjojkaphkaaItr
import Derived.Test.YtjhldjojkaphkaaTf3
import Derived.Test.YtjhldjojkaphkaaAppNew
import Derived.Test.YtjhldjojkaphkaaCtM0
import Derived.RangeFuncBox
import Derived.Maps.AppendAt
namespace Go.Proofs.Ytjhldjojkaphkaa
open Go.ChangeShapes Go.WideShapes Go.ChangeAt Go.RowKit Go.Shelf
attribute [local go_sem] Oper.semAt_some
set_option linter.unusedVariables false
set_option linter.unusedSimpArgs false

/-- an append within a fence, and where the row's block is then -/
theorem listIn_append_new {F : Fence} {n' : Nat} {P : Program} (w : World) {ops : Array Oper} {rest : List Oper} {o : Oper} {a : Act} {Q : Exit → Act → World → Prop} (hgd : o.guard = none) (s x : Operand) (t : TypeId)
    (ho : o.op = .call { callee := .builtin .append, args := #[s, x], argTypes := #[t, t] })
    (base : Nat) (e : TypeId) (i : TypeInfo) (z : Value) (size bytes : Nat) (ht : P.underlying t = some (.slice e)) (hi : P.info? e = some i) (hz : i.zero = some z)
    (hsize : i.size = size) (hby : i.bytes = bytes) (hzs : z.cells.size = size) (hsz : 0 < size)
    (v : Value) (n : Nat) (xs : List Value) (hs : a.eval s = v) (hown : w.ownsRow base e size v n xs)
    (ad : Addr) (m c : Nat) (news : List Value) (hx : a.eval x = .slice (some ad) m c) (hl : news.length = m * size) (hnews : ∀ j u, news[j]? = some u → w.cell? (ad.add j) = some u) (h1 : ∀ u ∈ news, u.oneCell' = true)
    (h63 : n + m ≤ maxLen) (hbytes : (n + m) * bytes ≤ 140737488355328) (hbase : base ≤ w.heap.size)
    (h : ∀ v' w', w'.ownsRow base e size v' (n + m) (xs ++ news) → w.grownBy w' v.ownBlock → NewBlk w v v' → wpListIn F n' P ops Q rest (a.put o.dst v') w') : wpListIn F n' P ops Q (o :: rest) a w := by
  refine wpListIn_plain hgd fun K hK => ?_
  obtain ⟨v', w', hr, h2, h3, h4⟩ := run_append_own (P := P) w base t o.type e i z size bytes ht hi hz hsize hby hzs hsz v n xs hown ad m c news hl hnews h1 h63 hbytes hbase
  have h5 := append_new (P := P) w base t o.type e i z size bytes ht hi hz hsize hby hzs hsz v n xs hown ad m c news hl hnews h1 h63 hbytes v' w' hr
  unfold Oper.wpIn
  refine ⟨by simp [Oper.about, ho, resolve, Target.leads, Sem.run_pure], ?_⟩
  rw [Oper.semAt_plain F _ _ (by rw [ho]; intro c hc'; cases hc')]
  simp [execOp, ho, resolve, invoke, builtin, hs, hx, hr, Result.andThen]
  exact hK _ _ (h v' w' h2 h3 h5)
/-- what holds between two rounds: the box has a row of its own with what has come -/
structure Apd (w : World) (cs : List Int) (O : Nat → Prop) (k : Nat) (W : World) : Prop where
  far : ∀ b, O b → w.heap.size + 1 ≤ b
  row : ∃ v, vb W w.heap.size 41 [v] ∧ Row W (w.heap.size + 1) 46 2 v k (cs.take (k * 2)) ∧ ∀ g, v.ownBlock = some g → ¬ O g
  bel : Below w.heap.size w W
theorem Apd.on {w : World} {cs : List Int} {O O' : Nat → Prop} {k : Nat} {A B : World} (h : Apd w cs O k A) (hg : Grw O A B) (hO : ∀ b, O' b → O b ∨ A.heap.size ≤ b) : Apd w cs O' k B := by
  obtain ⟨v, hv, hr, hn⟩ := h.row
  have hl := hv.lt
  refine ⟨fun b hb => (hO b hb).elim (h.far b) (fun h => by omega), ⟨v, ?_, hr.kept' (fun g hg' => hg.block g (hr.lt g hg').2 (hn g hg')), fun g hg' ho => (hO g ho).elim (hn g hg') (fun h => by have := (hr.lt g hg').2; omega)⟩, h.bel.trans (hg.bel h.bel.size (fun b hb => by have := h.far b hb; omega))⟩
  exact (hg.block _ hl (fun ho => by have := h.far _ ho; omega)).trans hv
theorem take_two {cs : List Int} {k : Nat} (h : k * 2 + 1 < cs.length) : cs.take ((k + 1) * 2) = cs.take (k * 2) ++ [gt cs (k * 2), gt cs (k * 2 + 1)] := by
  rw [show (k + 1) * 2 = k * 2 + 1 + 1 by omega, List.take_add_one, List.take_add_one, gtk_some h, gtk_some (show k * 2 < cs.length by omega)]
  simp
theorem sl_41 : Try.prog.underlying 41 = some (.slice 46) := Try.underlying41
set_option maxRecDepth 100000 in
set_option maxHeartbeats 4000000 in
theorem apS (gf : Nat) (lb : Array Value) (cs : List Int) (N n₀ : Nat) (w : World) (hN : N ≤ 2500) (hcs : cs.length = N * 2) (hn₀ : n₀ ≤ w.heap.size) (eg : ∀ args w, (callFunc gf args).run Try.prog w = .ok (.enter gf args) w) (hseq : SeqO Fence.wide 0 Try.prog gf lb (cor cs) N n₀ w) :
    Calls Try.prog 87 #[.slice none 0 0, .func (.func gf) #[] lb] w fun e w' => ∃ v, e = .returned v ∧ Row w' w.heap.size 46 2 v N cs ∧ Below w.heap.size w w' := by
  refine (callsIn_wide (n := 0)).1 ?_
  obtain ⟨iP, hi1, hp0, hp1, hp2⟩ := info_parts pt46
  have HBx := hide (vb_new w 41 [.slice none 0 0] w.heap.size rfl)
  have hbl : Below w.heap.size w (w.alloc (.cells #[.slice none 0 0] 41)) := ba (Below.refl _ _) _
  have HBL := hide hbl
  have HSQ := hide (hseq.later hbl)
  clear hseq hbl
  refine callsIn_of_wp_marks Try.func87 rfl trivial ?_ rfl
  simp only [Try.ntmps87, List.size_toArray, List.length_cons, List.length_nil, Nat.reduceAdd, Nat.reduceSub, Array.replicate_succ, Array.replicate_zero, List.push_toArray, List.append_toArray, List.nil_append, List.cons_append]
  gi_wp2
  refine range_seq (n₀ := n₀) (N := N) rfl (fun h => by cases h) (gf := gf) (lb := lb) rfl trivial eg (by simp; omega) (unhide HSQ) (Below.refl _ _) (fun _ => rfl) (Apd w cs) (fun _ _ _ => False) (fun O O' k A B h hg hO => h.on hg hO) (fun _ _ _ _ _ h _ _ => h)
    ⟨fun _ h => h.elim, ⟨_, unhide HBx, World.ownsRow_nil _ _ _ _, fun _ _ h => h⟩, unhide HBL⟩
    (fun O k a' W => ∃ b5, vb W b5 46 [.int .i64 (gt cs (k * 2)), .int .i64 (gt cs (k * 2 + 1))] ∧ ¬ O b5 ∧ w.heap.size < b5 ∧ a' = ({ tmps := #[.slice none 0 0, .func (.func gf) #[] lb, .pointer (some ⟨w.heap.size, 0, none⟩), undef, .slice none 0 0, .pointer (some ⟨b5, 0, none⟩), .func (.func gf) #[] lb, .agg #[.int .i64 (gt cs (k * 2)), .int .i64 (gt cs (k * 2 + 1))], undef, undef, undef, undef, undef], defers := [] } : Act))
    (fun O k a' A B h hg => by obtain ⟨b5, h1, h2, h3, h4⟩ := h; exact ⟨b5, (hg.block _ h1.lt h2).trans h1, h2, h3, h4⟩) ?assign ?body ?done ?stop
  case assign =>
    intro l O k W K hk hO hi hK
    have HK := hide hK
    have HI := hide hi
    clear hK hi
    unfold cor
    gi_wp2
    have hA : Below W.heap.size W (W.alloc (.cells #[.int .i64 (gt cs (k * 2)), .int .i64 (gt cs (k * 2 + 1))] 46)) := ba (Below.refl _ _) _
    exact unhide HK _ _ (Kpt.of_bel hA (Nat.le_trans hn₀ (unhide HI).bel.size)) ((unhide HI).on (Grw.of_bel hA) (fun b hb => .inl hb)) ⟨W.heap.size, vb_new W 46 _ _ rfl, fun h => by have := (hO _ h).2; omega, by obtain ⟨v, hv, _⟩ := (unhide HI).row; exact hv.lt, rfl⟩
  case body =>
    rintro l O k a' W hk hO hi ⟨b5, h5, hn5, hl5, rfl⟩
    obtain ⟨v, hv, hr, hnO⟩ := hi.row
    have hb := hi.bel
    have hfar := hi.far
    have HBX := hide hv
    have HR := hide hr
    have HNO := hide hnO
    have HB := hide hb
    have HFAR := hide hfar
    have H5 := hide h5
    have c0 := hv.cell (m := 0) rfl
    have cf := hv.frozen
    have p0 := h5.cell (m := 0) rfl
    have p1 := h5.cell (m := 1) rfl
    have hsz := hv.lt
    have hsz2 := h5.lt
    obtain ⟨x, hx⟩ : ∃ x, gt cs (k * 2) = x := ⟨_, rfl⟩
    obtain ⟨y, hy⟩ : ∃ y, gt cs (k * 2 + 1) = y := ⟨_, rfl⟩
    have HTK := hide (take_two (cs := cs) (k := k) (by omega))
    rw [hx, hy] at HTK H5 ⊢
    rw [hx] at p0
    rw [hy] at p1
    clear hv hr hnO hb hfar h5 hi hx hy
    have hA : Below W.heap.size W (W.alloc (.cells #[.int .i64 x, .int .i64 y] 46)) := ba (Below.refl _ _) _
    have HBW : Hid (∀ wz, (W.alloc (.cells #[.int .i64 x, .int .i64 y] 46)).grownBy wz v.ownBlock → vb wz w.heap.size 41 [v]) := hide (fun wz hg => (hg.block _ ((unhide HBX).bel hA).lt (fun e => by have := ((unhide HR).lt _ e.symm).1; omega)).trans ((unhide HBX).bel hA))
    gi_wp2_with (gi_at_builtin; refine listIn_append_new _ rfl _ _ 41 rfl (w.heap.size + 1) 46 iP _ 2 16 Try.underlying41 hi1 hp0 hp1 hp2 rfl (by decide) _ _ _ rfl ((unhide HR).alloc _) _ 1 1 ([x, y].map (Value.int .i64)) rfl rfl (by first | exact news_cells _ _ rfl | exact news_cells _ _ (by simp) | exact news_drew _ _ (by simp)) ints_one (by unfold maxLen; omega) (by omega) (by simp; omega) ?_; intro v' wz hown' hgrow hnew; obtain ⟨g', cap', rfl⟩ := ownsRow_succ hown'; have HGR := hide hgrow; have HOW := hide hown'; have HNW := hide hnew; have bz := (unhide HBW) _ hgrow; have cz := bz.cell (m := 0) rfl; have fz := bz.frozen; clear hown' hgrow hnew bz)
    have hgr := unhide HGR
    have how := unhide HOW
    have hbz := unhide HBW _ hgr
    have hnn : ∀ b, O b → b ≠ w.heap.size := fun b hb e => by have := unhide HFAR b hb; omega
    have hkp : Below w.heap.size W wz := ((ba (Below.refl _ _) _ : Below W.heap.size W _).mono (by omega)).grown hgr (by simp; omega) (fun j hj => by have := ((unhide HR).lt j hj).1; omega)
    have hrow : Row wz (w.heap.size + 1) 46 2 (.slice (some ⟨g', 0, none⟩) (k + 1) cap') (k + 1) (cs.take ((k + 1) * 2)) := by rw [unhide HTK]; unfold Row; rw [List.map_append]; exact how
    have hg1 := hrow.lt g' rfl
    have hset : ∀ (b : Nat), b ≠ w.heap.size → (wz.setCell ⟨w.heap.size, 0, none⟩ (.slice (some ⟨g', 0, none⟩) (k + 1) cap')).heap[b]? = wz.heap[b]? := fun b hb => Below.heap_setCell _ _ _ _ hb
    have hng : ∀ b, O b → b ≠ g' := by
      rintro b hb rfl
      rcases unhide HNW b rfl with h | h
      · exact unhide HNO b h hb
      · have := (hO b hb).2
        simp at h
        omega
    refine ⟨⟨(hkp.mono hn₀).trans ((Below.refl _ _).setCell (p := ⟨w.heap.size, 0, none⟩) hn₀ _), fun b hb hbl => (hset b (hnn b hb)).trans ((hgr.block b (by simp; omega) (fun e => unhide HNO b e.symm hb)).trans (Below.heap_alloc _ _ _ hbl))⟩, unhide HFAR, ⟨_, hbz.set 0 _, hrow.kept' (fun gg hgg => by cases hgg; exact hset g' (by omega)), fun gg hgg ho => by cases hgg; exact hng g' ho rfl⟩, ((unhide HB).trans hkp).setCell (p := ⟨w.heap.size, 0, none⟩) (Nat.le_refl _) _⟩
  case done =>
    intro O D W hD hi hK hOD
    obtain ⟨v, hv, hr, hnO⟩ := hi.row
    have HI := hide hi
    have HR := hide hr
    have HK := hide hK
    have HNO := hide hnO
    have c0 := hv.cell (m := 0) rfl
    clear hi hr hv hnO
    gi_wp2
    refine ⟨by simp, .inl ⟨_, _, rfl, run_takeDeferred (unhide HK), ?_⟩⟩
    refine ⟨_, results_tmp rfl _ _ _, v, rfl, ?_, ?_⟩
    · have h1 : Row (W.putObj D (.deferred none)) (w.heap.size + 1) 46 2 v N (cs.take (N * 2)) := (unhide HR).kept' (fun g hg => World.putObj_heap_other (fun e => unhide HNO g hg (by rw [e]; exact hOD)))
      rw [← hcs, List.take_length] at h1
      exact h1.mono (by omega)
    · exact (unhide HI).bel.trans ⟨rfl, rfl, rfl, by simp, fun b hb => World.putObj_heap_other (by have := hD; simp at this; omega)⟩
  case stop =>
    intro O D k W _ _ h
    exact h.elim
theorem clS (gf : Nat) (lb : Array Value) (cs : List Int) (N n₀ : Nat) (w : World) (hN : N ≤ 2500) (hcs : cs.length = N * 2) (hn₀ : n₀ ≤ w.heap.size) (eg : ∀ args w, (callFunc gf args).run Try.prog w = .ok (.enter gf args) w) (hseq : SeqO Fence.wide 0 Try.prog gf lb (cor cs) N n₀ w) :
    Calls Try.prog 53 #[.func (.func gf) #[] lb] w fun e w' => ∃ v, e = .returned v ∧ Row w' w.heap.size 46 2 v N cs ∧ Below w.heap.size w w' := by
  have HA := hide (apS gf lb cs N n₀ w hN hcs hn₀ eg hseq)
  clear hseq eg
  go_enter Try.func53, Try.ntmps53
  go_wp2_with fail
  refine (unhide HA).mono ?_
  rintro e w' ⟨v, rfl, hr, hb⟩
  have HR := hide hr
  have HB := hide hb
  clear hr hb
  go_wp2_with fail
  go_ret
  exact ⟨v, rfl, unhide HR, unhide HB⟩
end Go.Proofs.Ytjhldjojkaphkaa
