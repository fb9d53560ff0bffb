/- The model's cells are made. -/
import Derived.Test.YtkiplmabjeadgaaGreatFtOpenQ
import Derived.Test.YtkiplmabjeadgaaGreatMkTextQ
import Derived.Test.YtkiplmabjeadgaaGreatInv3Q
import Derived.Test.YtkiplmabjeadgaaGreatBaseQ
import Derived.Test.YtkiplmabjeadgaaGreatBdMemQ
import Derived.Test.YtkiplmabjeadgaaGreatFdMQ
namespace Go.Proofs.YtkiplmabjeadgaaGreat
set_option maxRecDepth 100000
set_option maxHeartbeats 16000000
open Go.ChangeShapes Go.WideShapes Go.ChangeAt Go.RowKit
set_option linter.unusedVariables false
set_option linter.unusedSimpArgs false
theorem own_apart {w : World} {B B' t t' k k' n m : Nat} {v v' : Value} {L M : List Value} (h : w.ownsRow B t k v n L) (h' : w.ownsRow B' t' k' v' m M) (ht : t ≠ t') {g : Nat} (hv : v.ownBlock = some g) : v'.ownBlock ≠ some g := by
 intro hv'
 rcases h.2 with ⟨rfl, _⟩ | ⟨g1, cap, cur, rfl, _, hh, _⟩
 ·cases hv
 ·rcases h'.2 with ⟨rfl, _⟩ | ⟨g2, cap', cur', rfl, _, hh', _⟩
  ·cases hv'
  ·simp only [Value.ownBlock, Option.some.injEq] at hv hv'
   subst hv;subst hv';rw [hh] at hh';simp only [Option.some.injEq, Obj.cells.injEq] at hh';exact ht hh'.2.1
structure Mq (w : World) (B : Nat) (u : Option Addr) (n cu g gf gb : Nat) (vd vo : Value) (dl : List Nat) (ol : List ByteArray) (c : Cs) : Prop where
 blk : vb w g 97 [.slice u n cu, vd, .slice (some ⟨gf, 0, none⟩) 13824 13824, .slice (some ⟨gb, 0, none⟩) 13824 13824, vo]
 cs : CsM w gf gb c
 dn : w.ownsRow B 3 1 vd dl.length (flatG natc dl)
 od : w.ownsRow B 9 1 vo ol.length (strs ol)
theorem Mdm.q {w : World} {B : Nat} {u : Option Addr} {n cu : Nat} {fs : List Ft} {g gf gb : Nat} {ud : Option Addr} {cd : Nat} {uo : Option Addr} {co : Nat} {D : Bd} (h : Mdm w B u n cu fs g gf gb ud cd uo co D) :
  Mq w B u n cu g gf gb (.slice ud D.done.length cd) (.slice uo D.done.length co) D.done (onm fs D.done) D.cs := ⟨h.blk, h.cs, h.dn, by rw [onm_len]; exact h.od⟩
theorem Mq.m {w : World} {B : Nat} {u : Option Addr} {n cu g gf gb : Nat} {vd vo : Value} {dl : List Nat} {fs : List Ft} {c : Cs} (h : Mq w B u n cu g gf gb vd vo dl (onm fs dl) c) :
  ∃ ud cd uo co, vd = .slice ud dl.length cd ∧ vo = .slice uo dl.length co ∧ Mdm w B u n cu fs g gf gb ud cd uo co ⟨dl, c⟩ := by
 obtain ⟨ud, cd, rfl, _⟩ := own_form h.dn;have ho := h.od;rw [onm_len] at ho;obtain ⟨uo, co, rfl, _⟩ := own_form ho;exact ⟨ud, cd, uo, co, rfl, rfl, ⟨h.blk, h.cs, h.dn, ho⟩⟩
theorem Mq.bel {w w' : World} {B : Nat} {u : Option Addr} {n cu g gf gb : Nat} {vd vo : Value} {dl : List Nat} {ol : List ByteArray} {c : Cs} (h : Mq w B u n cu g gf gb vd vo dl ol c) (hb : Below w.heap.size w w') : Mq w' B u n cu g gf gb vd vo dl ol c := ⟨h.blk.bel hb, h.cs.bel hb, own_bel h.dn hb, own_bel h.od hb⟩
theorem grw_keep {wr W2 w1 : World} {v : Value} {g o : Nat} {x : Value} (hb : Below wr.heap.size wr W2) (hg : W2.grownBy w1 v.ownBlock) {j : Nat} (hj : j < wr.heap.size) (h1 : j ≠ g) (h2 : v.ownBlock ≠ some j) : (w1.setCell ⟨g, o, none⟩ x).heap[j]? = wr.heap[j]? :=
 (Below.heap_setCell _ _ _ _ h1).trans ((hg.block j (Nat.lt_of_lt_of_le hj hb.size) (fun e => h2 e.symm)).trans (hb.block j hj))
theorem grw_own {wr W2 w1 : World} {v v' : Value} {g o B t k n B' t' k' m : Nat} {x : Value} {L M : List Value} (hb : Below wr.heap.size wr W2) (hg : W2.grownBy w1 v.ownBlock) (h : wr.ownsRow B t k v n L) (h' : wr.ownsRow B' t' k' v' m M) (ht : t ≠ t') (hB : g < B') :
  (w1.setCell ⟨g, o, none⟩ x).ownsRow B' t' k' v' m M :=
 own_kept h' fun j hj => grw_keep hb hg (own_ge h' j hj).2 (by have := (own_ge h' j hj).1; omega) (fun e => own_apart h h' ht e hj)
theorem grw_th {wr W2 w1 : World} {v : Value} {g gf gb o B : Nat} {x : Value} {t k n : Nat} {L : List Value} (hb : Below wr.heap.size wr W2) (hg : W2.grownBy w1 v.ownBlock) (h : wr.ownsRow B t k v n L) (hB : B ≤ wr.heap.size) : Th g gf gb B wr (w1.setCell ⟨g, o, none⟩ x) :=
 (Th.of_bel ((hb.mono hB).grown hg (Nat.le_trans hB hb.size) (fun j hj => (own_ge h j hj).1))).trans (Th.set _ _ _)
theorem Mq.done {wr W2 w1 : World} {B : Nat} {u : Option Addr} {n cu g gf gb : Nat} {vd vo v' : Value} {dl : List Nat} {ol : List ByteArray} {c : Cs} {i : Nat} (h : Mq wr B u n cu g gf gb vd vo dl ol c)
  (hb : Below wr.heap.size wr W2) (hg : W2.grownBy w1 vd.ownBlock) (hown : w1.ownsRow B 3 1 v' (dl.length + 1) (flatG natc dl ++ natc i)) (h1 : g < B) (h2 : gf < B) (h3 : gb < B) (n1 : g ≠ gf) (n2 : g ≠ gb) :
  Mq (w1.setCell ⟨g, 1, none⟩ v') B u n cu g gf gb v' vo (dl ++ [i]) ol c := by
 have hgl := h.blk.lt;have lo : ∀ j, j < B → vd.ownBlock ≠ some j := fun j hj e => by have := (own_ge h.dn j e).1; omega
 have hv1 : vb w1 g 97 _ := ((hg.block g (Nat.lt_of_lt_of_le hgl hb.size) (fun e => lo g h1 e.symm)).trans (hb.block g hgl)).trans h.blk;refine ⟨hv1.set 1 v', ⟨?_, ?_⟩, ?_, grw_own hb hg h.dn h.od (by decide) h1⟩
 ·exact (grw_keep hb hg h.cs.f.lt (fun e => n1 e.symm) (lo _ h2)).trans h.cs.f
 ·exact (grw_keep hb hg h.cs.b.lt (fun e => n2 e.symm) (lo _ h3)).trans h.cs.b
 ·rw [List.length_append, flatG_append, flat_oneG]
  exact own_kept hown fun j hj => Below.heap_setCell _ _ _ _ (by have := (own_ge hown j hj).1; show j ≠ g; omega)
theorem Mq.ord {wr W2 w1 : World} {B : Nat} {u : Option Addr} {n cu g gf gb : Nat} {vd vo v' : Value} {dl : List Nat} {ol : List ByteArray} {c : Cs} {s : ByteArray} (h : Mq wr B u n cu g gf gb vd vo dl ol c)
  (hb : Below wr.heap.size wr W2) (hg : W2.grownBy w1 vo.ownBlock) (hown : w1.ownsRow B 9 1 v' (ol.length + 1) (strs ol ++ [.string s])) (h1 : g < B) (h2 : gf < B) (h3 : gb < B) (n1 : g ≠ gf) (n2 : g ≠ gb) :
  Mq (w1.setCell ⟨g, 4, none⟩ v') B u n cu g gf gb vd v' dl (ol ++ [s]) c := by
 have hgl := h.blk.lt;have lo : ∀ j, j < B → vo.ownBlock ≠ some j := fun j hj e => by have := (own_ge h.od j e).1; omega
 have hv1 : vb w1 g 97 _ := ((hg.block g (Nat.lt_of_lt_of_le hgl hb.size) (fun e => lo g h1 e.symm)).trans (hb.block g hgl)).trans h.blk;refine ⟨hv1.set 4 v', ⟨?_, ?_⟩, grw_own hb hg h.od h.dn (by decide) h1, ?_⟩
 ·exact (grw_keep hb hg h.cs.f.lt (fun e => n1 e.symm) (lo _ h2)).trans h.cs.f
 ·exact (grw_keep hb hg h.cs.b.lt (fun e => n2 e.symm) (lo _ h3)).trans h.cs.b
 ·rw [List.length_append, show strs (ol ++ [s]) = strs ol ++ [.string s] by simp [strs]]
  exact own_kept hown fun j hj => Below.heap_setCell _ _ _ _ (by have := (own_ge hown j hj).1; show j ≠ g; omega)
theorem Mq.c1 {wr W2 w1 : World} {B : Nat} {u : Option Addr} {n cu g gf gb : Nat} {vd vo : Value} {dl : List Nat} {ol : List ByteArray} {c : Cs} (h : Mq wr B u n cu g gf gb vd vo dl ol c)
  (hb : Below wr.heap.size wr W2) (hg : W2.grownBy w1 vd.ownBlock) (h1 : g < B) : w1.cell? ⟨g, 1, none⟩ = some vd ∧ ∀ o, w1.frozen? ⟨g, o, none⟩ = false := by
 have hgl := h.blk.lt;have lo : ∀ j, j < B → vd.ownBlock ≠ some j := fun j hj e => by have := (own_ge h.dn j e).1; omega
 have hv1 : vb w1 g 97 _ := ((hg.block g (Nat.lt_of_lt_of_le hgl hb.size) (fun e => lo g h1 e.symm)).trans (hb.block g hgl)).trans h.blk;exact ⟨hv1.cell (m := 1) rfl, hv1.frozen⟩
theorem Mq.c4 {wr W2 w1 : World} {B : Nat} {u : Option Addr} {n cu g gf gb : Nat} {vd vo : Value} {dl : List Nat} {ol : List ByteArray} {c : Cs} (h : Mq wr B u n cu g gf gb vd vo dl ol c)
  (hb : Below wr.heap.size wr W2) (hg : W2.grownBy w1 vo.ownBlock) (h1 : g < B) : w1.cell? ⟨g, 4, none⟩ = some vo ∧ ∀ o, w1.frozen? ⟨g, o, none⟩ = false := by
 have hgl := h.blk.lt;have lo : ∀ j, j < B → vo.ownBlock ≠ some j := fun j hj e => by have := (own_ge h.od j e).1; omega
 have hv1 : vb w1 g 97 _ := ((hg.block g (Nat.lt_of_lt_of_le hgl hb.size) (fun e => lo g h1 e.symm)).trans (hb.block g hgl)).trans h.blk;exact ⟨hv1.cell (m := 4) rfl, hv1.frozen⟩
theorem strs_one (s : ByteArray) : ∀ u ∈ [Value.string s], u.oneCell' = true := by intro u hu; rw [List.mem_singleton.1 hu]; rfl
theorem Mq.fill {wr w1 : World} {B : Nat} {u : Option Addr} {n cu g gf gb : Nat} {vd vo : Value} {dl : List Nat} {ol : List ByteArray} {c c' : Cs} (h : Mq wr B u n cu g gf gb vd vo dl ol c) (hc : CsM w1 gf gb c') (ht : Tw gf gb wr w1)
  (h2 : gf < B) (h3 : gb < B) (n1 : g ≠ gf) (n2 : g ≠ gb) : Mq w1 B u n cu g gf gb vd vo dl ol c' :=
  ⟨ht.vb h.blk n1 n2, hc, own_kept h.dn fun j hj => ht.block j (own_ge h.dn j hj).2 (by have := (own_ge h.dn j hj).1; omega) (by have := (own_ge h.dn j hj).1; omega),
   own_kept h.od fun j hj => ht.block j (own_ge h.od j hj).2 (by have := (own_ge h.od j hj).1; omega) (by have := (own_ge h.od j hj).1; omega)⟩
theorem bxs_len {fs : List Ft} {f : Ft} (h : Fb f) : (bxs fs f).length ≤ 8 := by
 unfold bxs
 split
 ·rw [bxsN, List.length_map, List.length_range]
  have := h.ct;omega
 ·simp
theorem onm_app (fs : List Ft) (l : List Nat) (i : Nat) : onm fs (l ++ [i]) = onm fs l ++ [(fs.getD i ft0).nm] := by simp [onm]
theorem fil_take {v : Bool} {m : Nat} {l : List Bx} {c : Cs} {k : Nat} {b : Bx} (h : l[k]? = some b) : (l.take (k + 1)).foldl (fun c b => fil b v m c) c = fil b v m ((l.take k).foldl (fun c b => fil b v m c) c) := by
 rw [List.take_add_one, h, List.foldl_append];rfl
open Go.ChangeShapes Go.WideShapes Go.ChangeAt Go.RowKit Go.Maps Go.WideMaps
def hasT (l : List ByteArray) (s : ByteArray) : Bool := l.any fun t => sEq t s
theorem hasT_no {l : List ByteArray} {s : ByteArray} (h : ∀ (j : Nat) (t : ByteArray), l[j]? = some t → sEq t s = false) : hasT l s = false := by
 unfold hasT;rw [List.any_eq_false];intro t ht;obtain ⟨j, hj, rfl⟩ := List.getElem_of_mem ht;rw [h j _ (List.getElem?_eq_getElem hj)];simp
theorem hasT_yes {l : List ByteArray} {s : ByteArray} {i : Nat} {t : ByteArray} (h : l[i]? = some t) (e : sEq t s = true) : hasT l s = true := by
 unfold hasT;rw [List.any_eq_true];exact ⟨t, List.mem_of_getElem? h, e⟩
def sdB (fs : List Ft) (off : List ByteArray) (k : Nat) : Bool := hasT off (fs.getD k ft0).nm
def lf (fs : List Ft) (off : List ByteArray) (k : Nat) : Bool := (mrk (nms fs) (sdB fs off) (ord (nms fs))).contains k
theorem mgo_far {nm : List (List Nat)} {sd : Nat → Bool} {k : Nat} : ∀ (T M : List Nat), k ∉ T → (T.foldl (mgo nm sd) M).contains k = M.contains k
 | [], M, _ => rfl
 | x :: T, M, h => by
  rw [List.foldl_cons, mgo_far T _ (fun e => h (List.mem_cons_of_mem _ e))];unfold mgo
  split
  ·rw [contains_snoc]
   have : (k == x) = false := by
    rw [beq_eq_false_iff_ne];intro e;subst e;exact h (List.mem_cons_self ..)
   rw [this, Bool.or_false]
  ·rfl
theorem ord_split {nm : List (List Nat)} {i : Nat} (hi : i ≤ nm.length) : ∃ T, ord nm = wo nm i ++ T := by
 obtain ⟨T, hT⟩ := wo_more nm i (nm.length - i);exact ⟨T, by unfold ord; rw [← hT]; congr 1; omega⟩
theorem lf_at {fs : List Ft} {off : List ByteArray} {i k : Nat} (hi : i < (nms fs).length) (hk : ff (nms fs) (wo (nms fs) i) = some k) : (mgo (nms fs) (sdB fs off) (mrk (nms fs) (sdB fs off) (wo (nms fs) i)) k).contains k = lf fs off k := by
 obtain ⟨T, hT⟩ := ord_split (nm := nms fs) (i := i + 1) hi;have hnd := wo_nodup (nms fs) (nms fs).length;have ho : wo (nms fs) (nms fs).length = ord (nms fs) := rfl;rw [ho, hT, wo_some hk, List.nodup_append] at hnd;unfold lf;rw [hT, wo_some hk];unfold mrk;rw [List.foldl_append, mgo_far T _ (fun e => hnd.2.2 k (by simp) k e rfl), List.foldl_append];rfl
theorem runB_snoc (fs : List Ft) (L : Nat → Bool) (l : List Nat) (k : Nat) (B : Bd) : runB fs L (l ++ [k]) B = match runB fs L l B with | .inl x => .inl x | .inr D => if L k = true then .inr D else doF fs D k := by
 rw [runB_app]
 cases runB fs L l B with
 | inl x => rfl
 | inr D =>
  show (if L k = true then runB fs L [] D else match doF fs D k with | .inl x => .inl x | .inr B' => runB fs L [] B') = (if L k = true then .inr D else doF fs D k)
  by_cases h : L k = true
  ·rw [if_pos h, if_pos h]
   rfl
  ·rw [if_neg h, if_neg h]
   cases doF fs D k <;> rfl
def Bu (fs : List Ft) (off : List ByteArray) (c : Int) (ab : List ByteArray) (D : Option Bd) : Prop :=
 if 4096 < off.length then c = 2 ∧ ab = [] ∧ D = none
 else ∃ c0 ab0, Chk fs c0 ab0 ∧ ((c0 ≠ 0 ∧ c = c0 ∧ ab = ab0 ∧ D = none) ∨ (c0 = 0 ∧
  ((∃ (i : Nat) (s : ByteArray), off[i]? = some s ∧ findN fs s = none ∧ (∀ (j : Nat) (t : ByteArray), j < i → off[j]? = some t → findN fs t ≠ none) ∧ c = 6 ∧ ab = [s] ∧ D = none) ∨
  ((∀ s ∈ off, findN fs s ≠ none) ∧ ((∃ x, runB fs (lf fs off) (ord (nms fs)) bd0 = .inl x ∧ c = x.1 ∧ ab = x.2 ∧ D = none) ∨ (∃ B, runB fs (lf fs off) (ord (nms fs)) bd0 = .inr B ∧ c = 0 ∧ ab = [] ∧ D = some B))))))
theorem Bu.uniq {fs : List Ft} {off : List ByteArray} {c c' : Int} {ab ab' : List ByteArray} {D D' : Option Bd} (h : Bu fs off c ab D) (k : Bu fs off c' ab' D') : c = c' ∧ ab = ab' ∧ D = D' := by
 unfold Bu at h k
 split at h
 ·rename_i h0
  rw [if_pos h0] at k;exact ⟨h.1.trans k.1.symm, h.2.1.trans k.2.1.symm, h.2.2.trans k.2.2.symm⟩
 ·rename_i h0
  rw [if_neg h0] at k;obtain ⟨c0, ab0, hc, h⟩ := h;obtain ⟨c1, ab1, hc', k⟩ := k;obtain ⟨rfl, rfl⟩ := hc.uniq hc'
  rcases h with ⟨e0, rfl, rfl, rfl⟩ | ⟨e0, h⟩
  ·rcases k with ⟨_, rfl, rfl, rfl⟩ | ⟨e1, _⟩
   ·exact ⟨rfl, rfl, rfl⟩
   ·exact (e0 e1).elim
  ·rcases k with ⟨e1, _⟩ | ⟨_, k⟩
   ·exact (e1 e0).elim
   ·rcases h with ⟨i, s, hi, hs, hj, rfl, rfl, rfl⟩ | ⟨ha, h⟩
    ·rcases k with ⟨i', s', hi', hs', hj', rfl, rfl, rfl⟩ | ⟨ha, _⟩
     ·have : i = i' := by
       rcases Nat.lt_trichotomy i i' with e | e | e
       ·exact (hj' i s e hi hs).elim
       ·exact e
       ·exact (hj i' s' e hi' hs').elim
      subst this;rw [hi] at hi'
      cases hi'
      exact ⟨rfl, rfl, rfl⟩
     ·exact (ha s (List.mem_of_getElem? hi) hs).elim
    ·rcases k with ⟨i', s', hi', hs', _⟩ | ⟨_, k⟩
     ·exact (ha s' (List.mem_of_getElem? hi') hs').elim
     ·rcases h with ⟨x, hx, rfl, rfl, rfl⟩ | ⟨B, hB, rfl, rfl, rfl⟩
      ·rcases k with ⟨y, hy, rfl, rfl, rfl⟩ | ⟨B', hB', _⟩
       ·rw [hx] at hy; cases hy; exact ⟨rfl, rfl, rfl⟩
       ·rw [hx] at hB'; cases hB'
      ·rcases k with ⟨y, hy, _⟩ | ⟨B', hB', rfl, rfl, rfl⟩
       ·rw [hB] at hy; cases hy
       ·rw [hB] at hB'; cases hB'; exact ⟨rfl, rfl, rfl⟩
theorem has_any (u : Option Addr) (n cu : Nat) (l : List ByteArray) (s : ByteArray) (w : World) (hl : l.length = n) (hn : n ≤ 1048576) (hu : StAt w u l) :
  Calls Tryz.prog 77 #[.slice u n cu, .string s] w fun e w' => e = .returned (.bool (hasT l s)) ∧ w' = w := by
 have HU := hide hu;have HL := hide hl;clear hu hl;go_enter Tryz.func77, Tryz.ntmps77;go_wp2
 go_loopw [5] (fun z W => ∃ i : Nat, z = .int .i64 (i : Int) ∧ i ≤ n ∧ (∀ j g, j < i → l[j]? = some g → sEq g s = false) ∧ W = w) (fun z _ => n - (intOf z).toNat)
 case atStart => exact ⟨0, rfl, Nat.zero_le _, fun j g hj => by omega, rfl⟩
 case round =>
  obtain ⟨i, rfl, hi, hno, hw⟩ := hrel;subst hw;have HN := hide hno;clear hno
  by_cases h : i < n
  ·have i1 : (i : Int) < (n : Int) := by omega
   have i0 : (0 : Int) ≤ (i : Int) := Int.natCast_nonneg _;have iz : decide ((i : Int) < (n : Int)) = true := dt i1;obtain ⟨f, hx⟩ := get_some (zu HL) h;have hne : l ≠ [] := by intro e; subst e; cases hx
   obtain ⟨g, o, rfl, _, hc⟩ := (zu HU) hne;have k0 := hc i f hx;have HX := hide hx;clear hx hc hne
   cases hq : sEq f s
   ·have hq' : (f.toList == s.toList) = false := hq
    have HQ := hide hq;clear hq;go_wp2_with fail;go_roundw
    case rel =>
     refine ⟨i + 1, by simp, h, ?_, by first | rfl | trivial⟩;intro j g hj hg
     by_cases e : j = i
     ·subst e
      rw [zu HX] at hg
      cases hg
      exact zu HQ
     ·exact zu HN j g (by omega) hg
    case measure => simp only [intOf]; omega
   ·have hq' : (f.toList == s.toList) = true := hq
    have HQ := hide hq;clear hq;go_wp2_with fail;go_ret;exact ⟨ret_bool (hasT_yes (zu HX) (zu HQ)).symm, rfl⟩
  ·have i1 : ¬ (i : Int) < (n : Int) := by omega
   have iz : decide ((i : Int) < (n : Int)) = false := df i1;go_wp2_with fail;go_ret;refine ⟨ret_bool (hasT_no fun j g hg => zu HN j g ?_ hg).symm, rfl⟩;have := (List.getElem?_eq_some_iff.1 hg).1;rw [zu HL] at this;omega
noncomputable def rg44 (id : Nat) : Go.Code := match Tryz.f44.body with | some c => (regOfZ id c).getD .skip | none => .skip
theorem bu10 {s0 s2 s3 s4 s5 s6 s7 s8 s9 s11 s12 s13 s14 s15 s16 s17 s18 s19 s20 s21 s22 s23 s24 s25 s26 s27 s28 s29 s30 s31 s32 s33 s34 s35 s36 s37 s38 s39 s40 s41 s42 s43 s44 s45 s46 s47 s48 s49 s50 s51 s52 s53 s54 s55 s56 s57 s58 s59 s60 s61 s62 s63 s64 s65 s66 s67 s68 s69 s70 s71 s72 s73 s74 s75 s76 s77 s78 s79 s80 s81 s82 s83 s84 s85 s86 s87 s88 s89 s90 s91 s92 s93 s94 s95 s96 s97 s98 s99 s100 s101 s102 s103 s104 s105 s106 s107 s108 s109 s110 s111 s112 s113 s114 s115 s116 s117 s118 s119 s120 s121 s122 : Value} {fo oo mf cf i : Nat} {sk : ByteArray} {V : World} {K_ : Act → World → Prop}
  (HE : Hid (V.cell? ⟨fo, oo + i, none⟩ = some (.string sk)))
  (HX2 : Hid (i < mf))
  (hQ : ∀ (n4 : Nat)  (W1 : World), Below V.heap.size V W1 → vb W1 n4 9 [.string sk] → V.heap.size ≤ n4 → K_ { tmps := #[s0, .slice (some ⟨fo, oo, none⟩) mf cf, s2, s3, .pointer none, .int .i64 (6), .slice (some ⟨n4, 0, none⟩) 1 1, s7, s8, s9, .int .i64 (i : Int), s11, s12, s13, s14, s15, s16, s17, s18, s19, s20, s21, s22, s23, s24, s25, s26, s27, s28, s29, s30, s31, s32, s33, s34, s35, s36, s37, s38, s39, s40, s41, s42, s43, .slice (some ⟨fo, oo, none⟩) mf cf, .int .i64 (i : Int), .pointer (some ⟨fo, oo + i, none⟩), .string sk, .slice (some ⟨n4, 0, none⟩) 1 1, s49, s50, s51, s52, s53, s54, s55, s56, s57, s58, s59, s60, s61, s62, s63, s64, s65, s66, s67, s68, s69, s70, s71, s72, s73, s74, s75, s76, s77, s78, s79, s80, s81, s82, s83, s84, s85, s86, s87, s88, s89, s90, s91, s92, s93, s94, s95, s96, s97, s98, s99, s100, s101, s102, s103, s104, s105, s106, s107, s108, s109, s110, s111, s112, s113, s114, s115, s116, s117, s118, s119, s120, s121, s122], defers := [] } W1) :
  Go.Code.wp Tryz.prog (rg44 10) (Only K_) { tmps := #[s0, .slice (some ⟨fo, oo, none⟩) mf cf, s2, s3, s4, s5, s6, s7, s8, s9, .int .i64 (i : Int), s11, s12, s13, s14, s15, s16, s17, s18, s19, s20, s21, s22, s23, s24, s25, s26, s27, s28, s29, s30, s31, s32, s33, s34, s35, s36, s37, s38, s39, s40, s41, s42, s43, s44, s45, s46, s47, s48, s49, s50, s51, s52, s53, s54, s55, s56, s57, s58, s59, s60, s61, s62, s63, s64, s65, s66, s67, s68, s69, s70, s71, s72, s73, s74, s75, s76, s77, s78, s79, s80, s81, s82, s83, s84, s85, s86, s87, s88, s89, s90, s91, s92, s93, s94, s95, s96, s97, s98, s99, s100, s101, s102, s103, s104, s105, s106, s107, s108, s109, s110, s111, s112, s113, s114, s115, s116, s117, s118, s119, s120, s121, s122], defers := [] } V := by
 have HQ := hide hQ;clear hQ
 conv => arg 2; whnf
 refine wp_region_inv2 (fun Lb A W => ∃ (u0 u1 u2 u3 u4 u5 u6 u7 : Bool) (n4 : Nat), Lb = #[u0, u1, u2, u3, u4, u5, u6, u7] ∧ A = ({ tmps := #[s0, .slice (some ⟨fo, oo, none⟩) mf cf, s2, s3, (bif u5 then .pointer none else s4), (bif u6 then .int .i64 (6) else s5), (bif u7 then .slice (some ⟨n4, 0, none⟩) 1 1 else s6), s7, s8, s9, .int .i64 (i : Int), s11, s12, s13, s14, s15, s16, s17, s18, s19, s20, s21, s22, s23, s24, s25, s26, s27, s28, s29, s30, s31, s32, s33, s34, s35, s36, s37, s38, s39, s40, s41, s42, s43, (bif u0 then .slice (some ⟨fo, oo, none⟩) mf cf else s44), (bif u1 then .int .i64 (i : Int) else s45), (bif u2 then .pointer (some ⟨fo, oo + i, none⟩) else s46), (bif u3 then .string sk else s47), (bif u4 then .slice (some ⟨n4, 0, none⟩) 1 1 else s48), s49, s50, s51, s52, s53, s54, s55, s56, s57, s58, s59, s60, s61, s62, s63, s64, s65, s66, s67, s68, s69, s70, s71, s72, s73, s74, s75, s76, s77, s78, s79, s80, s81, s82, s83, s84, s85, s86, s87, s88, s89, s90, s91, s92, s93, s94, s95, s96, s97, s98, s99, s100, s101, s102, s103, s104, s105, s106, s107, s108, s109, s110, s111, s112, s113, s114, s115, s116, s117, s118, s119, s120, s121, s122], defers := [] } : Act) ∧ Below V.heap.size V W ∧ (u4 = true → vb W n4 9 [.string sk] ∧ V.heap.size ≤ n4) ∧ (u7 = true → u0 = true ∧ u1 = true ∧ u2 = true ∧ u3 = true ∧ u4 = true ∧ u5 = true ∧ u6 = true)) (by kernel_rfl) (by kernel_rfl) ?h0 ?hstep ?hend
 case h0 =>
  exact ⟨false, false, false, false, false, false, false, false, 0, rfl, rfl, Below.drew (bfl _ _), zf, zf⟩
 case hstep =>
  intro Lb A W hI;obtain ⟨u0, u1, u2, u3, u4, hI⟩ := hI;obtain ⟨u5, u6, u7, n4, hI⟩ := hI;obtain ⟨hLb, hI⟩ := hI;obtain ⟨hA, hI⟩ := hI;obtain ⟨kB, hI⟩ := hI;obtain ⟨k4, hI⟩ := hI;have kF := hI;clear hI;subst hLb;subst hA;replace kB := hide kB;replace k4 := hide k4;replace kF := hide kF;refine ⟨?_, ?_, ?_, ?_, ?_, ?_, ?_, ?_, trivial⟩
  ·intro h0 hd K hK
   have z : u0 = false := h0;have z7_ : u7 = false := znb fun hu => z.symm.trans ((zu kF hu).1)
   subst z7_;subst z;clear h0 hd;rw [if_pos (by rfl)];go_simp;exact zu hK _ _ ⟨true, u1, u2, u3, u4, u5, u6, false, n4, rfl, rfl, zu kB, zu k4, zf⟩
  ·intro h0 hd K hK
   have z : u1 = false := h0;have z7_ : u7 = false := znb fun hu => z.symm.trans ((zu kF hu).2.1)
   subst z7_;subst z;clear h0 hd;rw [if_pos (by rfl)];go_simp;exact zu hK _ _ ⟨u0, true, u2, u3, u4, u5, u6, false, n4, rfl, rfl, zu kB, zu k4, zf⟩
  ·intro h0 hd K hK
   have z : u2 = false := h0;have z7_ : u7 = false := znb fun hu => z.symm.trans ((zu kF hu).2.2.1)
   obtain ⟨rfl, rfl⟩ : u0 = true ∧ u1 = true := by simp [Region.binds] at hd; simp [hd]
   subst z7_;subst z;clear h0 hd;rw [if_pos (by rfl)];have q1 : i < mf := zu HX2;have q2 : (i : Int) < (mf : Int) := by omega
   go_simp;exact zu hK _ _ ⟨true, true, true, u3, u4, u5, u6, false, n4, rfl, rfl, zu kB, zu k4, zf⟩
  ·intro h0 hd K hK
   have z : u3 = false := h0;have z7_ : u7 = false := znb fun hu => z.symm.trans ((zu kF hu).2.2.2.1)
   obtain ⟨rfl⟩ : u2 = true := by simp [Region.binds] at hd; simp [hd]
   subst z7_;subst z;clear h0 hd;rw [if_pos (by rfl)];have c0 := keep1 (zu kB) (zu HE);go_simp;exact zu hK _ _ ⟨u0, u1, true, true, u4, u5, u6, false, n4, rfl, rfl, zu kB, zu k4, zf⟩
  ·intro h0 hd K hK
   have z : u4 = false := h0;have z7_ : u7 = false := znb fun hu => z.symm.trans ((zu kF hu).2.2.2.2.1)
   obtain ⟨rfl⟩ : u3 = true := by simp [Region.binds] at hd; simp [hd]
   subst z7_;subst z;clear h0 hd;rw [if_pos (by rfl)];go_simp;exact zu hK _ _ ⟨u0, u1, u2, true, true, u5, u6, false, W.heap.size, rfl, rfl, ba (zu kB) _, (fun _ => ⟨vb_new W 9 _ _ rfl, (zu kB).size⟩), zf⟩
  ·intro h0 hd K hK
   have z : u5 = false := h0;have z7_ : u7 = false := znb fun hu => z.symm.trans ((zu kF hu).2.2.2.2.2.1)
   subst z7_;subst z;clear h0 hd;rw [if_pos (by rfl)];go_simp;exact zu hK _ _ ⟨u0, u1, u2, u3, u4, true, u6, false, n4, rfl, rfl, zu kB, zu k4, zf⟩
  ·intro h0 hd K hK
   have z : u6 = false := h0;have z7_ : u7 = false := znb fun hu => z.symm.trans ((zu kF hu).2.2.2.2.2.2)
   obtain ⟨rfl⟩ : u5 = true := by simp [Region.binds] at hd; simp [hd]
   subst z7_;subst z;clear h0 hd;rw [if_pos (by rfl)];go_simp;exact zu hK _ _ ⟨u0, u1, u2, u3, u4, true, true, false, n4, rfl, rfl, zu kB, zu k4, zf⟩
  ·intro h0 hd K hK
   have z : u7 = false := h0
   have zd0 : u0 = true ∧ u1 = true ∧ u2 = true ∧ u3 = true ∧ u4 = true ∧ u5 = true ∧ u6 = true := by
    simp [Region.binds] at hd;simp [hd]
   have zd : u0 = true ∧ u1 = true ∧ u2 = true ∧ u3 = true ∧ u4 = true ∧ u5 = true ∧ u6 = true := ⟨zd0.1, zd0.2.1, zd0.2.2.1, zd0.2.2.2.1, zd0.2.2.2.2.1, zd0.2.2.2.2.2.1, zd0.2.2.2.2.2.2⟩
   obtain ⟨rfl, rfl, rfl, rfl, rfl, rfl, rfl⟩ := zd;subst z;clear h0 hd;rw [if_pos (by rfl)];go_simp;exact zu hK _ _ ⟨true, true, true, true, true, true, true, true, n4, rfl, rfl, zu kB, zu k4, (fun _ => ⟨rfl, rfl, rfl, rfl, rfl, rfl, rfl⟩)⟩
 case hend =>
  intro Lb A W hI;obtain ⟨u0, u1, u2, u3, u4, hI⟩ := hI;obtain ⟨u5, u6, u7, n4, hI⟩ := hI;obtain ⟨hLb, hI⟩ := hI;obtain ⟨hA, hI⟩ := hI;obtain ⟨kB, hI⟩ := hI;obtain ⟨k4, hI⟩ := hI;have kF := hI;clear hI;subst hLb;subst hA;intro hL
  have hl : u0 = true ∧ u1 = true ∧ u2 = true ∧ u3 = true ∧ u4 = true ∧ u5 = true ∧ u6 = true ∧ u7 = true := by
   have h2 := congrArg Array.toList hL
   simpa [List.replicate] using h2
  obtain ⟨rfl, rfl, rfl, rfl, rfl, rfl, rfl, rfl⟩ := hl;exact zu HQ n4  W kB (k4 rfl).1 (k4 rfl).2
theorem bu11 {s1 s2 s3 s4 s5 s6 s7 s8 s9 s10 s11 s12 s13 s14 s15 s16 s17 s18 s19 s20 s21 s22 s23 s24 s25 s26 s27 s28 s29 s30 s31 s32 s33 s34 s35 s36 s37 s38 s39 s40 s41 s42 s43 s44 s45 s46 s47 s48 s49 s50 s51 s52 s53 s54 s55 s56 s57 s58 s59 s60 s61 s62 s63 s64 s65 s66 s67 s68 s69 s70 s71 s72 s73 s74 s75 s76 s77 s78 s79 s80 s81 s82 s83 s84 s85 s86 s87 s88 s89 s90 s91 s92 s93 s94 s95 s96 s97 s98 s99 s100 s101 s102 s103 s104 s105 s106 s107 s108 s109 s110 s111 s112 s113 s114 s115 s116 s117 s118 s119 s120 s121 s122 : Value} {n cu : Nat} {u : Option Addr} {V : World} {K_ : Act → World → Prop}
  (hQ : ∀ (g gf gb : Nat) (W9 : World), Below V.heap.size V W9 → vb W9 g 97 [.slice u n cu, .slice none 0 0, .slice (some ⟨gf, 0, none⟩) 13824 13824, .slice (some ⟨gb, 0, none⟩) 13824 13824, .slice none 0 0] → vb W9 gf 4 (List.replicate 13824 (.bool false)) → vb W9 gb 3 (List.replicate 13824 (.int .i64 0)) → g ≠ gf → g ≠ gb → gf ≠ gb → V.heap.size ≤ g → V.heap.size ≤ gf → V.heap.size ≤ gb → K_ { tmps := #[.slice u n cu, s1, s2, s3, s4, s5, s6, s7, s8, s9, s10, .pointer (some ⟨g, 0, none⟩), s12, s13, s14, s15, s16, s17, s18, s19, s20, s21, s22, s23, s24, s25, s26, s27, s28, s29, s30, s31, s32, s33, s34, s35, s36, s37, s38, s39, s40, s41, s42, s43, s44, s45, s46, s47, s48, .slice u n cu, .slice (some ⟨gf, 0, none⟩) 13824 13824, .slice (some ⟨gb, 0, none⟩) 13824 13824, .agg #[.slice u n cu, .slice none 0 0, .slice (some ⟨gf, 0, none⟩) 13824 13824, .slice (some ⟨gb, 0, none⟩) 13824 13824, .slice none 0 0], .pointer (some ⟨g, 0, none⟩), s54, s55, s56, s57, s58, s59, s60, s61, s62, s63, s64, s65, s66, s67, s68, s69, s70, s71, s72, s73, s74, s75, s76, s77, s78, s79, s80, s81, s82, s83, s84, s85, s86, s87, s88, s89, s90, s91, s92, s93, s94, s95, s96, s97, s98, s99, s100, s101, s102, s103, s104, s105, s106, s107, s108, s109, s110, s111, s112, s113, s114, s115, s116, s117, s118, s119, s120, s121, s122], defers := [] } W9) :
  Go.Code.wp Tryz.prog (rg44 11) (Only K_) { tmps := #[.slice u n cu, s1, s2, s3, s4, s5, s6, s7, s8, s9, s10, s11, s12, s13, s14, s15, s16, s17, s18, s19, s20, s21, s22, s23, s24, s25, s26, s27, s28, s29, s30, s31, s32, s33, s34, s35, s36, s37, s38, s39, s40, s41, s42, s43, s44, s45, s46, s47, s48, s49, s50, s51, s52, s53, s54, s55, s56, s57, s58, s59, s60, s61, s62, s63, s64, s65, s66, s67, s68, s69, s70, s71, s72, s73, s74, s75, s76, s77, s78, s79, s80, s81, s82, s83, s84, s85, s86, s87, s88, s89, s90, s91, s92, s93, s94, s95, s96, s97, s98, s99, s100, s101, s102, s103, s104, s105, s106, s107, s108, s109, s110, s111, s112, s113, s114, s115, s116, s117, s118, s119, s120, s121, s122], defers := [] } V := by
 have HK := hide hQ;clear hQ;have hm1 : ∀ W, (Instr.makeSlice 95 (.int .i64 13824) (.int .i64 13824)).run Tryz.prog W = .ok (.slice (some ⟨W.heap.size, 0, none⟩) 13824 13824) (W.alloc (.cells (List.replicate 13824 (.bool false)).toArray 4)) := fun W => make_vals (P := Tryz.prog) 95 4 1 13824 (.bool false) rfl Tryz.underlying95 info4 (by omega) (by omega) W
 have hm2 : ∀ W, (Instr.makeSlice 94 (.int .i64 13824) (.int .i64 13824)).run Tryz.prog W = .ok (.slice (some ⟨W.heap.size, 0, none⟩) 13824 13824) (W.alloc (.cells (List.replicate 13824 (.int .i64 0)).toArray 3)) := fun W => make_vals (P := Tryz.prog) 94 3 8 13824 (.int .i64 0) rfl Tryz.underlying94 info3 (by omega) (by omega) W
 obtain ⟨L1, hL1⟩ : ∃ L, List.replicate 13824 (Value.bool false) = L := ⟨_, rfl⟩
 obtain ⟨L2, hL2⟩ : ∃ L, List.replicate 13824 (Value.int .i64 0) = L := ⟨_, rfl⟩
 rw [hL1] at hm1 HK;rw [hL2] at hm2 HK;clear hL1 hL2
 conv => arg 2; whnf
 go_region
 ·exact zu HK (V.heap.size + 1 + 1) V.heap.size (V.heap.size + 1) _ (Below.drew (ba (ba (ba (bfl _ _) _) _) _)) (vb_new ((V.alloc (.cells L1.toArray 4)).alloc (.cells L2.toArray 3)) 97 _ _ (by simp)) ((vb_new V 4 L1 _ rfl).bel (Below.drew (ba (ba (bfl _ _) _) _))) ((vb_new (V.alloc (.cells L1.toArray 4)) 3 L2 _ (by simp)).bel (Below.drew (ba (bfl _ _) _))) (by omega) (by omega) (by omega) (by omega) (by omega) (by omega)
 ·exact zu HK (V.heap.size + 1 + 1) (V.heap.size + 1) V.heap.size _ (Below.drew (ba (ba (ba (bfl _ _) _) _) _)) (vb_new ((V.alloc (.cells L2.toArray 3)).alloc (.cells L1.toArray 4)) 97 _ _ (by simp)) ((vb_new (V.alloc (.cells L2.toArray 3)) 4 L1 _ (by simp)).bel (Below.drew (ba (bfl _ _) _))) ((vb_new V 3 L2 _ rfl).bel (Below.drew (ba (ba (bfl _ _) _) _))) (by omega) (by omega) (by omega) (by omega) (by omega) (by omega)
end Go.Proofs.YtkiplmabjeadgaaGreat
