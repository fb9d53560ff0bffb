/- The law for a statement that draws its order, within a fence. -/
import Derived.Test.YtkiplmabjeadgaaGreatBpPcQ
import Derived.Test.YtkiplmabjeadgaaGreatBdTcQ
namespace Go.Proofs.YtkiplmabjeadgaaGreat
set_option maxRecDepth 100000
set_option maxHeartbeats 16000000
open Go.ChangeShapes Go.WideShapes Go.ChangeAt Go.RowKit
set_option linter.unusedVariables false
set_option linter.unusedSimpArgs false
structure Kpx (R O : Nat → Prop) (A B : World) : Prop where
 os : B.os = A.os
 tape : B.tape = A.tape
 output : B.output = A.output
 size : A.heap.size ≤ B.heap.size
 keep : ∀ b, R b ∨ O b → b < A.heap.size → B.heap[b]? = A.heap[b]?
theorem Kpx.refl (R O : Nat → Prop) (A : World) : Kpx R O A A := ⟨rfl, rfl, rfl, Nat.le_refl _, fun _ _ _ => rfl⟩
theorem Kpx.of_bel {R O : Nat → Prop} {A B : World} (h : Below A.heap.size A B) : Kpx R O A B := ⟨h.os, h.tape, h.output, h.size, fun b _ hb => h.block b hb⟩
theorem Kpx.trans {R O : Nat → Prop} {A B C : World} (h : Kpx R O A B) (k : Kpx R O B C) : Kpx R O A C := ⟨k.os.trans h.os, k.tape.trans h.tape, k.output.trans h.output, Nat.le_trans h.size k.size, fun b ho hb => (k.keep b ho (Nat.lt_of_lt_of_le hb h.size)).trans (h.keep b ho hb)⟩
theorem Kpx.sub {R O R' O' : Nat → Prop} {A B : World} (h : Kpx R O A B) (hs : ∀ b, R' b ∨ O' b → R b ∨ O b) : Kpx R' O' A B := ⟨h.os, h.tape, h.output, h.size, fun b ho hb => h.keep b (hs b ho) hb⟩
theorem Kpx.put {R O : Nat → Prop} {A : World} {l : Nat} (hr : ¬ R l) (hn : ¬ O l) (o : Obj) : Kpx R O A (A.putObj l o) := ⟨rfl, rfl, rfl, by simp, fun b ho _ => World.putObj_heap_other (fun e => ho.elim (fun h => hr (by rw [← e]; exact h)) (fun h => hn (by rw [← e]; exact h)))⟩
theorem Kpx.cell {R O : Nat → Prop} {A : World} {l o : Nat} (hr : ¬ R l) (hn : ¬ O l) (v : Value) : Kpx R O A (A.setCell ⟨l, o, none⟩ v) := ⟨rfl, rfl, rfl, by simp, fun b ho _ => Below.heap_setCell _ _ _ _ (fun e => by have e' : b = l := e; subst e'; exact ho.elim hr hn)⟩
theorem Kpx.vb {R O : Nat → Prop} {A B : World} {b t : Nat} {vs : List Value} (h : Kpx R O A B) (hv : vb A b t vs) (hb : R b ∨ O b) : vb B b t vs := (h.keep b hb hv.lt).trans hv
def SeqX (P : Program) (g : Nat) (lb : Array Value) (enc : Nat → Array Value) (N : Nat) (R : Nat → Prop) (w : World) : Prop :=
 ∀ (l : Nat) (J Jx : (Nat → Prop) → Nat → World → Prop) (W : World), Below w.heap.size w W →
  (∀ O O' k A B, J O k A → Grw O A B → (∀ b, O' b → O b ∨ A.heap.size ≤ b) → J O' k B) → (∀ O O' k A B, Jx O k A → Grw O A B → (∀ b, O' b → O b ∨ A.heap.size ≤ b) → Jx O' k B) →
  (∀ O k W1, k < N → (∀ b, O b → W.heap.size ≤ b ∧ b < W1.heap.size) → J O k W1 → YieldAt Fence.wide 0 P l (enc k) W1 fun e W' => (e = .returned (.bool true) ∧ J O (k + 1) W' ∧ Kpx R O W1 W') ∨ (e = .returned (.bool false) ∧ Jx O k W' ∧ ∀ b, O b → b < W1.heap.size → W'.heap[b]? = W1.heap[b]?)) →
  J (fun _ => False) 0 W →
  CallsIn Fence.wide 0 P g (#[.func (.yield l) #[] #[]] ++ lb) W fun e W' => (∃ v, e = .returned v) ∧ ∃ O, J O N W' ∨ ∃ k, k < N ∧ Jx O k W'
def xpost (R O : Nat → Prop) (I Ix : (Nat → Prop) → Nat → World → Prop) (k : Nat) (W : World) : Exit → Act → World → Prop
 | .normal, _, W' => Kpx R O W W' ∧ I O (k + 1) W'
 | .ret, _, W' => (∀ b, O b → b < W.heap.size → W'.heap[b]? = W.heap[b]?) ∧ Ix O k W'
 | _, _, _ => False
variable {P : Program}
theorem range_x {g : Operand} {ps : Array Tmp} {assign body : Code} {Q : Exit → Act → World → Prop} {a : Act} {w : World}
  {gf : Nat} {lb : Array Value} (hg : a.eval g = .func (.func gf) #[] lb) (eg : ∀ args w, (callFunc gf args).run P w = .ok (.enter gf args) w)
  {enc : Nat → Array Value} {N : Nat} {R : Nat → Prop} {w0 : World} (hR : ∀ b, R b → b < w.heap.size) (hseq : SeqX P gf lb enc N R w0) (hb0 : Below w0.heap.size w0 w) (hps : ∀ k, (enc k).size = ps.size)
  (I Ix : (Nat → Prop) → Nat → World → Prop) (hI : ∀ O O' k A B, I O k A → Grw O A B → (∀ b, O' b → O b ∨ A.heap.size ≤ b) → I O' k B) (hIx : ∀ O O' k A B, Ix O k A → Grw O A B → (∀ b, O' b → O b ∨ A.heap.size ≤ b) → Ix O' k B)
  (h0 : I (fun _ => False) 0 w)
  (Ax : (Nat → Prop) → Nat → Act → World → Prop) (hAx : ∀ O k a' A B, Ax O k a' A → Grw O A B → Ax O k a' B)
  (hassign : ∀ (l : Nat) (O : Nat → Prop) (k : Nat) (W : World) (K : Act → World → Prop), k < N → (∀ b, O b → w.heap.size ≤ b ∧ b < W.heap.size) → I O k W → (∀ a' W', Kpx R O W W' → I O k W' → Ax O k a' W' → K a' W') →
   assign.wpIn (Fence.wide.inRound l) 0 P (Exit.then K (fun _ _ _ => False)) { tmps := (ps.zip (enc k)).foldl (fun t (p, v) => t.setIfInBounds p v) a.tmps, defers := [] } W)
  (hbody : ∀ (l : Nat) (O : Nat → Prop) (k : Nat) (a' : Act) (W : World), (∃ r, W.heap[l]? = some (.loop r)) → O l → k < N → (∀ b, O b → w.heap.size ≤ b ∧ b < W.heap.size) → I O k W → Ax O k a' W → body.wpIn (Fence.wide.inRound l) 0 P (xpost R O I Ix k W) a' W)
  (hdone : ∀ (O : Nat → Prop) (D : Nat) (W : World), w.heap.size ≤ D → I O N W → W.heap[D]? = some (.deferred (some [])) → O D → Q .normal { a with defers := { target := .collected D, args := #[] } :: a.defers } W)
  (hstop : ∀ (O : Nat → Prop) (D : Nat) (k : Nat) (W : World), w.heap.size ≤ D → k < N → Ix O k W → W.heap[D]? = some (.deferred (some [])) → O D → Code.ret.wpIn Fence.wide 0 P Q { a with defers := { target := .collected D, args := #[] } :: a.defers } W) :
  (Code.rangeFunc g ps assign body).wpIn Fence.wide 0 P Q a w := by
 refine wpIn_rangeFunc ?_;intro fn hfn;rw [show Fence.wide.round = none from rfl]
 obtain ⟨rc, hrc⟩ : ∃ rc : LoopState → Option Code → Loop, rc = fun st pe => { state := st, pending := pe, fn, tmps := a.tmps, params := ps, assign, body, defers := w.heap.size } := ⟨_, rfl⟩
 let W1 := (w.alloc (.deferred (some []))).alloc (.loop (rc .ready none))
 have hs1 : W1.heap.size = w.heap.size + 2 := by simp [W1]
 have hL1 : W1.heap[w.heap.size + 1]? = some (.loop (rc .ready none)) := by
  have := World.alloc_heap_new (w.alloc (.deferred (some []))) (.loop (rc .ready none)); rwa [World.size_alloc] at this
 have hK1 : W1.heap[w.heap.size]? = some (.deferred (some [])) := (Below.heap_alloc _ _ _ (by simp)).trans (World.alloc_heap_new w _);have hbw : Below w.heap.size w W1 := ba (ba (bfl _ _) _) _;have hb1 : Below w0.heap.size w0 W1 := hb0.trans (hbw.mono hb0.size)
 refine ⟨w.heap.size + 1, [{ target := .collected w.heap.size, args := #[] }], W1, { target := .fn (.func gf) lb, args := #[.func (.yield (w.heap.size + 1)) #[] #[]] }, W1, gf,
  #[.func (.yield (w.heap.size + 1)) #[] #[]] ++ lb, W1, ?_, ?_, ?_, ?_, (fun h => by cases h), ?_⟩
 ·rw [show W1 = (w.alloc (.deferred (some []))).alloc (.loop (rc .ready none)) from rfl, hrc]; exact run_enterLoop_outer _ _ _ _ _
 ·simp only [resolve, hg]
  simp [go_sem]
 ·intro f' hf'; simp [Target.leads] at hf'; subst hf'; trivial
 ·simp [invoke, go_sem, eg]
 ·-- the two blocks of the loop itself are of the iterator's side, so far as the caller is concerned
  let up : (Nat → Prop) → Nat → Prop := fun O b => O b ∨ b = w.heap.size ∨ b = w.heap.size + 1
  have upl : ∀ O, up O (w.heap.size + 1) := fun O => .inr (.inr rfl)
  have upd : ∀ O, up O w.heap.size := fun O => .inr (.inl rfl)
  have upg : ∀ {O : Nat → Prop} {A B : World}, Grw O A B → Grw (up O) A B := fun h => h.mono (fun b hb => .inl hb)
  refine (hseq (w.heap.size + 1)
   (fun O k W => (∀ b, O b → w.heap.size + 2 ≤ b) ∧ I (up O) k W ∧ W.heap[w.heap.size + 1]? = some (.loop (rc .ready none)) ∧ W.heap[w.heap.size]? = some (.deferred (some [])))
   (fun O k W => (∀ b, O b → w.heap.size + 2 ≤ b) ∧ Ix (up O) k W ∧ W.heap[w.heap.size + 1]? = some (.loop (rc .done (some .ret))) ∧ W.heap[w.heap.size]? = some (.deferred (some [])))
   W1 hb1 ?_ ?_ ?_ ?_).mono ?_
  ·rintro O O' k A B ⟨hO, hi, hl, hk⟩ hg' hoo
   have hlt := (Array.getElem?_eq_some_iff.1 hl).1;exact ⟨fun b hb => (hoo b hb).elim (hO b) (fun h => by omega), hI _ _ _ _ _ hi (upg hg') (fun b hb => hb.elim (fun h => (hoo b h).elim (fun h => .inl (.inl h)) .inr) (fun h => .inl (.inr h))), (hg'.block _ (Array.getElem?_eq_some_iff.1 hl).1 (fun h => absurd (hO _ h) (by omega))).trans hl, (hg'.block _ (Array.getElem?_eq_some_iff.1 hk).1 (fun h => absurd (hO _ h) (by omega))).trans hk⟩
  ·rintro O O' k A B ⟨hO, hi, hl, hk⟩ hg' hoo
   have hlt := (Array.getElem?_eq_some_iff.1 hl).1;exact ⟨fun b hb => (hoo b hb).elim (hO b) (fun h => by omega), hIx _ _ _ _ _ hi (upg hg') (fun b hb => hb.elim (fun h => (hoo b h).elim (fun h => .inl (.inl h)) .inr) (fun h => .inl (.inr h))), (hg'.block _ (Array.getElem?_eq_some_iff.1 hl).1 (fun h => absurd (hO _ h) (by omega))).trans hl, (hg'.block _ (Array.getElem?_eq_some_iff.1 hk).1 (fun h => absurd (hO _ h) (by omega))).trans hk⟩
  ·rintro O k W hkN hOb ⟨hO, hi, hl, hk⟩
   have hlt : w.heap.size + 1 < W.heap.size := (Array.getElem?_eq_some_iff.1 hl).1;have hy := run_yield (P := P) (args := enc k) hl (by rw [hrc]; exact hps k);rw [hrc] at hy
   have hub : ∀ X : World, W.heap.size ≤ X.heap.size → ∀ b, up O b → w.heap.size ≤ b ∧ b < X.heap.size := by
    rintro X hX b (h | rfl | rfl)
    ·have := hOb b h; omega
    ·omega
    ·omega
   have nO : ¬ O (w.heap.size + 1) := fun h => absurd (hO _ h) (by omega)
   refine ⟨fn, _, assign, body, hy, roundIn_of_wpIn hfn (hassign _ (up O) k W _ hkN (hub W (Nat.le_refl _)) hi ?_)⟩;clear hy;intro a' Wa hka hia hax;have hla := (hka.keep _ (.inr (upl O)) hlt).trans hl;have hda := (hka.keep _ (.inr (upd O)) (by omega)).trans hk;refine ⟨_, run_beginRound hla (by rw [hrc]), ?_⟩;have hlt2 : w.heap.size + 1 < Wa.heap.size := (Array.getElem?_eq_some_iff.1 hla).1;have hl2 : (Wa.putObj (w.heap.size + 1) (.loop { rc .ready none with state := .busy })).heap[w.heap.size + 1]? = some (.loop { rc .ready none with state := .busy }) := World.putObj_heap_same hlt2
   have hk2 : (Wa.putObj (w.heap.size + 1) (.loop { rc .ready none with state := .busy })).heap[w.heap.size]? = some (.deferred (some [])) := (World.putObj_heap_other (by omega)).trans hda;have hg2 : Grw (up O) Wa (Wa.putObj (w.heap.size + 1) (.loop { rc .ready none with state := .busy })) := Grw.put (upl O) _;have nR : ¬ R (w.heap.size + 1) := fun h => absurd (hR _ h) (by omega)
   have hkk : Kpx R O W (Wa.putObj (w.heap.size + 1) (.loop { rc .ready none with state := .busy })) := (hka.sub (fun b hb => hb.elim .inl (fun h => .inr (.inl h)))).trans (Kpx.put nR nO _);refine wpIn_mono (hbody _ (up O) k a' _ ⟨_, hl2⟩ (upl O) hkN (hub _ hkk.size) (hI _ _ _ _ _ hia hg2 (fun b h => .inl h)) (hAx _ _ _ _ _ hax hg2)) ?_;generalize hWb : Wa.putObj (w.heap.size + 1) (.loop { rc .ready none with state := .busy }) = Wb at *;have hltb : w.heap.size + 1 < Wb.heap.size := (Array.getElem?_eq_some_iff.1 hl2).1;rintro e a3 W3 hp
   cases e with
   | normal =>
    obtain ⟨hk3, hi3⟩ := hp;have hl3 := (hk3.keep _ (.inr (upl O)) hltb).trans hl2;have hd3 := (hk3.keep _ (.inr (upd O)) (by omega)).trans hk2;have hr := run_endRound (P := P) none hl3;refine ⟨_, _, hr, .inl ⟨rfl, ⟨hO, hI _ _ _ _ _ hi3 (Grw.put (upl O) _) (fun b h => .inl h), ?_, (World.putObj_heap_other (by omega)).trans hd3⟩, (hkk.trans (hk3.sub (fun b hb => hb.elim .inl (fun h => .inr (.inl h))))).trans (Kpx.put nR nO _)⟩⟩;rw [World.putObj_heap_same (Array.getElem?_eq_some_iff.1 hl3).1, hrc];rfl
   | ret =>
    obtain ⟨hk3, hi3⟩ := hp;have hl3 := (hk3 _ (upl O) hltb).trans hl2;have hd3 := (hk3 _ (upd O) (by omega)).trans hk2;have hr := run_endRound (P := P) (some .ret) hl3;refine ⟨_, _, hr, .inr ⟨rfl, ⟨hO, hIx _ _ _ _ _ hi3 (Grw.put (upl O) _) (fun b h => .inl h), ?_, (World.putObj_heap_other (by omega)).trans hd3⟩, fun b hb hbl => ?keep⟩⟩
    ·rw [World.putObj_heap_same (Array.getElem?_eq_some_iff.1 hl3).1, hrc]
     rfl
    ·exact ((World.putObj_heap_other (fun e => nO (by rw [← e]; exact hb))).trans (hk3 b (.inl hb) (Nat.lt_of_lt_of_le hbl hkk.size))).trans (hkk.keep b (.inr hb) hbl)
   | exit id => exact hp.elim
   | goto t => exact hp.elim
   | panic ch => exact hp.elim
   | outgrown => exact hp.elim
  ·refine ⟨fun b hb => hb.elim, hI _ _ _ _ _ h0 (Grw.of_bel hbw) ?_, hL1, hK1⟩
   rintro b (h | rfl | rfl)
   ·exact h.elim
   ·exact .inr (Nat.le_refl _)
   ·exact .inr (by omega)
  ·rintro e W2 ⟨⟨v, rfl⟩, O, (⟨hO, hi, hl, hk⟩ | ⟨k, hkN, hO, hi, hl, hk⟩)⟩
   ·have hr := run_endLoop (P := P) hl (by rw [hrc]; simp)
    have e1 : (rc .ready none).pending = none := by rw [hrc]
    rw [e1] at hr;exact ⟨none, _, hr, hdone _ _ _ (Nat.le_refl _) (hI _ _ _ _ _ hi (Grw.put (upl O) _) (fun b h => .inl h)) ((World.putObj_heap_other (by omega)).trans hk) (upd O)⟩
   ·have hr := run_endLoop (P := P) hl (by rw [hrc]; simp)
    have e1 : (rc .done (some .ret)).pending = some .ret := by rw [hrc]
    rw [e1] at hr;exact ⟨some .ret, _, hr, hstop _ _ k _ (Nat.le_refl _) hkN (hIx _ _ _ _ _ hi (Grw.put (upl O) _) (fun b h => .inl h)) ((World.putObj_heap_other (by omega)).trans hk) (upd O)⟩
def RStepsF (F : Fence) (n : Nat) (P : Program) (ops : Array Oper) (Q : Exit → Act → World → Prop) (I : Array Bool → Act → World → Prop) (listed : Array Bool) (a : Act) (w : World) : Nat → List Oper → Prop
 | _, [] => True
 | i, o :: rest => (listed.getD i true = false → (o.after.all fun e => !Region.binds .any e || listed.getD e.on false) = true →
   ∀ K' : Act → World → Prop, Hid (∀ a' w', I (listed.setIfInBounds i true) a' w' → K' a' w') → if Region.wanted o (yielded ops a.tmps) = true then Oper.wpIn F n P o a w K' Q else (∀ f, o.about P w a.eval = some f → F.fn f) ∧ K' (a.put o.dst undef) w) ∧ RStepsF F n P ops Q I listed a w (i + 1) rest
section
variable {F : Fence} {n : Nat} {P : Program} {ops : Array Oper} {Q : Exit → Act → World → Prop} {I : Array Bool → Act → World → Prop}
theorem RStepsF.at {listed : Array Bool} {a : Act} {w : World} : ∀ (l : List Oper) (k i : Nat) (o : Oper), RStepsF F n P ops Q I listed a w k l → l[i]? = some o → listed.getD (k + i) true = false →
  (o.after.all fun e => !Region.binds .any e || listed.getD e.on false) = true →
  ∀ K' : Act → World → Prop, Hid (∀ a' w', I (listed.setIfInBounds (k + i) true) a' w' → K' a' w') → if Region.wanted o (yielded ops a.tmps) = true then Oper.wpIn F n P o a w K' Q else (∀ f, o.about P w a.eval = some f → F.fn f) ∧ K' (a.put o.dst undef) w := by
 intro l
 induction l with
 | nil => intro k i o _ h; simp at h
 | cons x l ih =>
  intro k i o h hi
  cases i with
  | zero => simp at hi; subst hi; exact h.1
  | succ i =>
   have := ih (k + 1) i o h.2 (by simpa using hi);rw [show k + 1 + i = k + (i + 1) by omega] at this;exact this
theorem wpAnyIn_inv (hfw : forward2 ops = true)
  (hstep : ∀ listed a w, I listed a w → RStepsF F n P ops Q I listed a w 0 ops.toList)
  (hend : ∀ listed a w, I listed a w → listed = Array.replicate ops.size true → Q .normal a w) :
  ∀ (fu : Nat) (listed : Array Bool) (a : Act) (w : World), listed.size = ops.size → listed.toList.count false ≤ fu → I listed a w → wpAnyIn F n P .any ops Q fu listed a w := by
 have alltrue : ∀ listed : Array Bool, listed.size = ops.size → (∀ i, i < ops.size → listed.getD i true = true) → listed = Array.replicate ops.size true := by
  intro listed hs h;apply Array.ext
  ·simp [hs]
  ·intro i h1 h2
   have := h i (by omega);simp [h1] at this;simp [this]
 have fin : ∀ listed : Array Bool, listed.size = ops.size → Region.ready .any ops listed = [] → listed = Array.replicate ops.size true := by
  intro listed hs hr;refine alltrue listed hs ?_;intro i
  induction i using Nat.strongRecOn with
  | _ i ih =>
   intro hi
   cases hl : listed.getD i true with
   | true => rfl
   | false =>
    have : i ∈ Region.ready .any ops listed := by
     rw [mem_ready];refine ⟨hl, ops[i], Array.getElem?_eq_getElem hi, fun e he hb => ?_⟩
     have hlt : e.on < i := by
      have h1 := hfw;unfold forward2 at h1;rw [List.all_eq_true] at h1;have h2 := h1 i (by simpa using hi);rw [Array.getElem?_eq_getElem hi] at h2;simp only [Option.map_some, Option.getD_some, Array.all_eq_true_iff_forall_mem] at h2;have h3 := h2 e he;rw [hb] at h3
      simpa using h3
     have h3 := ih e.on hlt (by omega);have : e.on < listed.size := by omega
     simp [this] at h3 ⊢;exact h3
    rw [hr] at this
    cases this
 intro fu
 induction fu with
 | zero =>
  intro listed a w hs hc hI
  have e : listed = Array.replicate ops.size true := by
   refine alltrue listed hs fun i hi => ?_
   have := count_none (l := listed.toList) (by omega) (i := i) (by simp; omega);rw [Array.getElem?_toList] at this;simp [this]
  refine ⟨?_, hend _ _ _ hI e⟩;rw [e];apply List.eq_nil_iff_forall_not_mem.2;intro i hi;rw [mem_ready] at hi;obtain ⟨h0, o, ho, _⟩ := hi;have : i < ops.size := (Array.getElem?_eq_some_iff.1 ho).1;simp [this] at h0
 | succ fu ih =>
  intro listed a w hs hc hI;refine ⟨fun hr => hend _ _ _ hI (fin listed hs hr), fun i hi => ?_⟩;obtain ⟨h0, o, ho, hall⟩ := mem_ready.1 hi
  have hlt : i < listed.size := by
   have := (Array.getElem?_eq_some_iff.1 ho).1;omega
  have hst := RStepsF.at ops.toList 0 i o (hstep _ _ _ hI) (by rw [Array.getElem?_toList]; exact ho) (by rw [Nat.zero_add]; exact h0) (by
   rw [Array.all_eq_true_iff_forall_mem];intro e he
   cases hb : Region.binds .any e
   ·rfl
   ·rw [hall e he hb]; rfl)
  rw [Nat.zero_add] at hst;refine wpOpIn_step ho (fun K' hK => hst K' (fun a' w' h => hK a' w' (ih _ a' w' (by simpa using hs) ?_ h)));rw [Array.toList_setIfInBounds]
  have := count_set listed.toList i (by
   rw [Array.getElem?_toList];simp [hlt] at h0 ⊢
   exact h0)
  omega
theorem wpIn_region_inv {id : Nat} {a : Act} {w : World} (I : Array Bool → Act → World → Prop) (hm : P.follows .mixedOrders = true) (hfw : forward2 ops = true)
  (h0 : I (Array.replicate ops.size false) a w.drew)
  (hstep : ∀ listed a w, I listed a w → RStepsF F n P ops Q I listed a w 0 ops.toList)
  (hend : ∀ listed a w, I listed a w → listed = Array.replicate ops.size true → Q .normal a w) : (Code.region id ops true).wpIn F n P Q a w := by
 refine wpIn_region_any hm (wpAnyIn_inv hfw hstep hend _ _ _ _ (by simp) ?_ h0);simp
end
end Go.Proofs.YtkiplmabjeadgaaGreat
