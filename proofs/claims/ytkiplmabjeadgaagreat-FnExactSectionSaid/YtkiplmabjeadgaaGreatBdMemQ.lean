/- The model's pieces. -/
import Derived.Test.YtkiplmabjeadgaaGreatBdTcQ
import Derived.Test.YtkiplmabjeadgaaGreatBaseQ
import Derived.Test.YtkiplmabjeadgaaGreatBdP16Q
import Derived.Test.YtkiplmabjeadgaaGreatFdMQ
import Derived.Deep.LoopGhost
namespace Go.Proofs.YtkiplmabjeadgaaGreat
set_option maxRecDepth 100000
set_option maxHeartbeats 16000000
open Go.ChangeShapes Go.WideShapes Go.ChangeAt Go.RowKit
set_option linter.unusedVariables false
set_option linter.unusedSimpArgs false
def fnL (n : Nat) (f : Nat → Value) : List Value := (List.range n).map f
theorem fnL_len (n : Nat) (f : Nat → Value) : (fnL n f).length = n := by simp [fnL]
theorem fnL_at {n k : Nat} (f : Nat → Value) (h : k < n) : (fnL n f)[k]? = some (f k) := by simp [fnL, h]
theorem fnL_set (n k : Nat) (f : Nat → Value) (v : Value) : (fnL n f).set k v = fnL n (fun j => if j = k then v else f j) := by
 apply List.ext_getElem?;intro j;rw [List.getElem?_set, fnL_len]
 by_cases hj : j < n
 ·rw [fnL_at f hj, fnL_at (fun j => if j = k then v else f j) hj]
  by_cases e : k = j
  ·subst e; simp [hj]
  ·rw [if_neg e, if_neg (fun q => e q.symm)]
 ·rw [List.getElem?_eq_none (l := fnL n f) (by rw [fnL_len]; omega), List.getElem?_eq_none (l := fnL n fun j => if j = k then v else f j) (by rw [fnL_len]; omega)]
  by_cases e : k = j
  ·subst e; simp [hj]
  ·rw [if_neg e]
theorem fnL_rep (n : Nat) (v : Value) : List.replicate n v = fnL n (fun _ => v) := by
 apply List.ext_getElem?;intro j
 by_cases hj : j < n
 ·rw [fnL_at _ hj, List.getElem?_replicate, if_pos hj]
 ·rw [List.getElem?_eq_none (by simp; omega), List.getElem?_eq_none (by rw [fnL_len]; omega)]
theorem fnL_ext {n : Nat} {f g : Nat → Value} (h : ∀ k, k < n → f k = g k) : fnL n f = fnL n g := by
 unfold fnL;exact List.map_congr_left fun k hk => h k (List.mem_range.1 hk)
structure CsM (w : World) (gf gb : Nat) (c : Cs) : Prop where
 f : vb w gf 4 (fnL 13824 fun k => .bool (c.full k))
 b : vb w gb 3 (fnL 13824 fun k => .int .i64 (c.by_ k : Int))
theorem CsM.bel {w w' : World} {gf gb : Nat} {c : Cs} (h : CsM w gf gb c) (hb : Below w.heap.size w w') : CsM w' gf gb c := ⟨h.f.bel hb, h.b.bel hb⟩
theorem CsM.cf {w : World} {gf gb : Nat} {c : Cs} (h : CsM w gf gb c) {k : Nat} (hk : k < 13824) : w.cell? ⟨gf, k, none⟩ = some (.bool (c.full k)) := h.f.cell (fnL_at _ hk)
theorem CsM.cb {w : World} {gf gb : Nat} {c : Cs} (h : CsM w gf gb c) {k : Nat} (hk : k < 13824) : w.cell? ⟨gb, k, none⟩ = some (.int .i64 (c.by_ k : Int)) := h.b.cell (fnL_at _ hk)
theorem CsM.put {w : World} {gf gb : Nat} {c d : Cs} (h : CsM w gf gb c) (hne : gf ≠ gb) (k : Nat) (v : Bool) (n : Nat) (hf : d.full = fun j => if j = k then v else c.full j) (hb : d.by_ = fun j => if j = k then n else c.by_ j) :
  CsM ((w.setCell ⟨gf, k, none⟩ (.bool v)).setCell ⟨gb, k, none⟩ (.int .i64 (n : Int))) gf gb d := by
 refine ⟨?_, ?_⟩
 ·have := (h.f.set k (.bool v)).ne (g' := gb) (o := k) (x := .int .i64 (n : Int)) hne
  rw [fnL_set] at this;rw [hf];refine cast ?_ this
  congr 2
  funext j
  show _ = Value.bool (if j = k then v else c.full j)
  split <;> rfl
 ·have := (h.b.ne (g' := gf) (o := k) (x := .bool v) (fun e => hne e.symm)).set k (.int .i64 (n : Int))
  rw [fnL_set] at this;rw [hb];refine cast ?_ this
  congr 2
  funext j
  show _ = Value.int .i64 (((if j = k then n else c.by_ j : Nat)) : Int)
  split <;> rfl
structure Tw (g h : Nat) (w w' : World) : Prop where
 os : w'.os = w.os
 tape : w'.tape = w.tape
 output : w'.output = w.output
 size : w.heap.size ≤ w'.heap.size
 block : ∀ k, k < w.heap.size → k ≠ g → k ≠ h → w'.heap[k]? = w.heap[k]?
theorem Tw.refl (g h : Nat) (w : World) : Tw g h w w := ⟨rfl, rfl, rfl, Nat.le_refl _, fun _ _ _ _ => rfl⟩
theorem Tw.trans {g h : Nat} {a b c : World} (x : Tw g h a b) (y : Tw g h b c) : Tw g h a c :=
  ⟨y.os.trans x.os, y.tape.trans x.tape, y.output.trans x.output, Nat.le_trans x.size y.size, fun k hk h1 h2 => (y.block k (Nat.lt_of_lt_of_le hk x.size) h1 h2).trans (x.block k hk h1 h2)⟩
theorem Tw.of_bel {g h : Nat} {w w' : World} (hb : Below w.heap.size w w') : Tw g h w w' := ⟨hb.os, hb.tape, hb.output, hb.size, fun k hk _ _ => hb.block k hk⟩
theorem Tw.bel {g h : Nat} {a w w' : World} (x : Tw g h a w) (hb : Below w.heap.size w w') : Tw g h a w' := x.trans (Tw.of_bel hb)
theorem Tw.set {g h b : Nat} {a w : World} (x : Tw g h a w) (hb : b = g ∨ b = h) (o : Nat) (v : Value) : Tw g h a (w.setCell ⟨b, o, none⟩ v) :=
  ⟨x.os, x.tape, x.output, by simpa [World.setCell] using x.size, fun k hk h1 h2 => (Below.heap_setCell _ _ _ _ (by rcases hb with rfl | rfl; exact h1; exact h2)).trans (x.block k hk h1 h2)⟩
theorem Tw.vb {g h : Nat} {w w' : World} {b t : Nat} {L : List Value} (x : Tw g h w w') (hv : vb w b t L) (h1 : b ≠ g) (h2 : b ≠ h) : vb w' b t L := (x.block b hv.lt h1 h2).trans hv
theorem Tw.below {g h B : Nat} {w w' : World} (x : Tw g h w w') (hg : B ≤ g) (hh : B ≤ h) (hs : B ≤ w.heap.size) : Below B w w' := ⟨x.os, x.tape, x.output, x.size, fun k hk => x.block k (by omega) (by omega) (by omega)⟩
theorem flat_oneG {α : Type} (c : α → List Value) (x : α) : flatG c [x] = c x := by simp [flatG]
theorem own_app {α : Type} {c : α → List Value} {w W2 w1 : World} {B t k n : Nat} {v v' : Value} {l : List α} {x : α} (hb : Below B w W2) (hB : B ≤ W2.heap.size) (h : w.ownsRow B t k v n (flatG c l)) (h' : w1.ownsRow B t k v' (n + 1) (flatG c l ++ c x)) (hg : W2.grownBy w1 v.ownBlock) :
  w1.ownsRow B t k v' (n + 1) (flatG c (l ++ [x])) ∧ Below B w w1 := by
 refine ⟨?_, hb.grown hg hB (fun j hj => (own_ge h j hj).1)⟩;rw [flatG_append, flat_oneG];exact h'
theorem getD_atB {l : List Bx} {i : Nat} {b : Bx} (h : l[i]? = some b) : l.getD i bx0 = b := by rw [List.getD_eq_getElem?_getD, h]; rfl
def natc (k : Nat) : List Value := [.int .i64 (k : Int)]
theorem natc_len (k : Nat) : (natc k).length = 1 := rfl
theorem natc_one (k : Nat) : ∀ u ∈ natc k, u.oneCell' = true := by intro u hu; simp only [natc, List.mem_singleton] at hu; subst hu; rfl
theorem own_pop {α : Type} {c : α → List Value} {w : World} {B t k n cap : Nat} {u : Option Addr} {l : List α} {x : α} (hc : ∀ a, (c a).length = k) (h : w.ownsRow B t k (.slice u (n + 1) cap) (n + 1) (flatG c (l ++ [x]))) (hl : l.length = n) :
  w.ownsRow B t k (.slice u n cap) n (flatG c l) := by
 rcases h.2 with ⟨h1, h2⟩ | ⟨g, cp, cur, hv, hB, hh, hn, hm, hs, ht⟩
 ·cases h1
 ·injection hv with a1 a2 a3
  subst a1;subst a3;refine ⟨by rw [flatG_len hc, hl], .inr ⟨g, cap, cur, rfl, hB, hh, by omega, hm, hs, ?_⟩⟩
  have e : (cur.toList.take ((n + 1) * k)).take (n * k) = flatG c l := by
   rw [ht, flatG_append, List.take_append_of_le_length (by rw [flatG_len hc, hl]; exact Nat.le_refl _), List.take_of_length_le (by rw [flatG_len hc, hl]; exact Nat.le_refl _)]
  rw [List.take_take, Nat.min_eq_left (Nat.mul_le_mul_right k (by omega))] at e;exact e
theorem own_last {α : Type} {c : α → List Value} {w : World} {B t k n cap : Nat} {u : Option Addr} {l : List α} {x : α} (hc : ∀ a, (c a).length = k) (h : w.ownsRow B t k (.slice u (n + 1) cap) (n + 1) (flatG c (l ++ [x]))) (hl : l.length = n) :
  ∃ g, u = some ⟨g, 0, none⟩ ∧ B ≤ g ∧ g < w.heap.size ∧ ∀ j v, (c x)[j]? = some v → w.cell? ⟨g, n * k + j, none⟩ = some v := by
 obtain ⟨u', c', e, _, _, h9⟩ := own_form h
 injection e with a1 a2 a3
 subst a1;obtain ⟨g, rfl, hB, hg, hx⟩ := h9 (by omega);refine ⟨g, rfl, hB, hg, fun j v hv => hx _ _ (flatG_at hc (i := n) ?_ hv)⟩;rw [List.getElem?_append_right (by omega), hl, Nat.sub_self];rfl
theorem seen_put {n k : Nat} {S : Nat → Bool} {w : World} {g : Nat} (h : vb w g 4 (fnL n fun j => .bool (S j))) : vb (w.setCell ⟨g, k, none⟩ (.bool true)) g 4 (fnL n fun j => .bool (if j = k then true else S j)) := by
 have := h.set k (.bool true);rw [fnL_set] at this;refine cast ?_ this
 congr 2
 funext j
 split <;> rfl
theorem piecesM_any (u : Option Addr) (p po n cu : Nat) (l : List Bx) (w : World) (hl : l.length = n) (hn : n ≤ 200000) (hb : ∀ b ∈ l, bxS 1000 b) (hu : SlG bxc 6 w u p po l) :
  Calls Tryz.prog 115 #[.slice u n cu] w fun e w' => e = .returned (.int .i64 ((pcsL l : Nat) : Int)) ∧ Below w.heap.size w w' := by
 obtain ⟨iT, ht, ht0, ht1, ht2⟩ := info_parts info3
 obtain ⟨tf, htt⟩ : ∃ t, tcl l = t := ⟨_, rfl⟩
 have hpl : pcsL l = pcs tf n n := by unfold pcsL; rw [htt, hl]
 rw [hpl];have hpn := pcs_le tf n;have hps : ∀ i, i < n → Sn tf n i i → pcs tf n (i + 1) = pcs tf n i := fun i _ h => pcs_seen h
 have hpw : ∀ i, i < n → ¬ Sn tf n i i → pcs tf n (i + 1) = pcs tf n i + 1 := fun i _ h => pcs_new h
 have HPN := hide hpn;have HPS := hide hps;have HPW := hide hpw;have HTT := hide htt;have HL := hide hl;have HB := hide hb;have HU := hide hu;have hmk := make_vals (P := Tryz.prog) 95 4 1 n (.bool false) rfl Tryz.underlying95 info4 (by omega) (by omega) w;have hfr : (List.replicate n (Value.bool false)) = fnL n (fun j => .bool ((fun _ : Nat => false) j)) := fnL_rep n _;rw [hfr] at hmk;have HS0 : Hid (vb (w.alloc (.cells (fnL n (fun j => .bool ((fun _ : Nat => false) j))).toArray 4)) w.heap.size 4 (fnL n (fun j => .bool ((fun _ : Nat => false) j)))) := hide (vb_new w 4 _ _ rfl)
 have HD0 : Hid (Below w.heap.size w (w.alloc (.cells (fnL n (fun j => .bool ((fun _ : Nat => false) j))).toArray 4))) := hide (ba (bfl _ _) _);clear hpn hps hpw htt hl hb hu hfr hpl;go_enter Tryz.func115, Tryz.ntmps115;go_wp2_with fail
 go_loopw [3, 5] (fun v s W => ∃ (i : Nat) (S : Nat → Bool), s = .int .i64 (i : Int) ∧ i ≤ n ∧ v = .int .i64 ((pcs tf n i : Nat) : Int) ∧ (∀ k, k < n → (S k = true ↔ Sn tf n i k)) ∧ vb W w.heap.size 4 (fnL n fun k => .bool (S k)) ∧ Below w.heap.size w W) (fun _ s _ => n - (intOf s).toNat)
 case atStart => exact ⟨0, fun _ => false, rfl, Nat.zero_le _, rfl, fun k _ => ⟨fun h => (by cases h), fun ⟨j, hj, _⟩ => (by omega)⟩, zu HS0, zu HD0⟩
 case round =>
  obtain ⟨i, S, rfl, hi, rfl, hS, hv, hd⟩ := hrel;have HS := hide hS;have HV := hide hv;have HD := hide hd;have hpi := pcs_le tf n i
  obtain ⟨pq, hpq⟩ : ∃ q, pcs tf n i = q := ⟨_, rfl⟩
  have HPQ := hide hpq;rw [hpq] at hpi ⊢;have hlt := hv.lt;clear hpq
  by_cases h : i < n
  ·have i1 : (i : Int) < (n : Int) := by omega
   have i0 : (0 : Int) ≤ (i : Int) := Int.natCast_nonneg _;have iz : decide ((i : Int) < (n : Int)) = true := dt i1;have wi : IntKind.i64.wrap ((i : Int) + 1) = ((i + 1 : Nat) : Int) := (wrap_i (by omega) (by omega)).trans (by simp);have c0 := hv.cell (fnL_at _ h);obtain ⟨bi, hbi⟩ := get_some (zu HL) h;obtain ⟨rfl, hpw, _⟩ := (zu HU).at hbi;clear hbi
   cases hs : S i with
   | true =>
    have hse := (hS i h).1 hs;rw [hs] at c0;have HN := hide (zu HPS i h hse);have HSN : Hid (∀ k, k < n → (S k = true ↔ Sn tf n (i + 1) k)) := hide (fun k hk => (zu HS k hk).trans (Sn.seen hse).symm);clear hs hse hS hv hd;go_wp2_with fail;go_roundw
    case rel => exact ⟨i + 1, S, by simp, h, by rw [zu HN, zu HPQ], zu HSN, zu HV, zu HD⟩
    case measure => simp only [intOf]; omega
   | false =>
    have hne : ¬ Sn tf n i i := fun q => by have := (hS i h).2 q; rw [hs] at this; cases this
    rw [hs] at c0;have HN := hide (zu HPW i h hne);have wq : IntKind.i64.wrap ((pq : Int) + 1) = ((pq + 1 : Nat) : Int) := (wrap_i (by omega) (by omega)).trans (by simp);have fz := hv.frozen i;have HWK := hide (Walk.start h hS);have HV1 := hide (seen_put (k := i) hv);have HD1 : Hid (Below w.heap.size w (wr.setCell ⟨w.heap.size, i, none⟩ (.bool true))) := hide (Below.setCell hd (Nat.le_refl _) (p := ⟨w.heap.size, i, none⟩) (.bool true));have hsz : (wr.setCell ⟨w.heap.size, i, none⟩ (.bool true)).heap.size = wr.heap.size := by simp [World.setCell]
    have HR1 : Hid (((wr.setCell ⟨w.heap.size, i, none⟩ (.bool true)).alloc (.cells #[.int .i64 (i : Int)] 3)).ownsRow (w.heap.size + 1) 3 1 (.slice (some ⟨wr.heap.size, 0, none⟩) 1 1) 1 (flatG natc [i])) := hide ((vb_new _ 3 [.int .i64 (i : Int)] wr.heap.size hsz.symm).owns (by omega) rfl (by decide));have HV2 := hide ((zu HV1).bel (ba (bfl _ _) (.cells #[.int .i64 (i : Int)] 3)));have HD2 := hide (ba (zu HD1) (.cells #[.int .i64 (i : Int)] 3));clear hs hne hS hv hd hsz HS HV HD HV1 HD1;go_wp2_with fail;clear c0 fz
    go_loopg [6] (n + 1) (fun gg v W => ∃ (S : Nat → Bool) (st : List Nat) (m : Nat), uns n S + st.length ≤ gg ∧ st.length = m ∧ gg ≤ n + 1 ∧ Walk tf n i S st ∧ W.ownsRow (w.heap.size + 1) 3 1 v m (flatG natc st) ∧ vb W w.heap.size 4 (fnL n fun k => .bool (S k)) ∧ Below w.heap.size w W)
    case atStart => exact ⟨_, [i], 1, by have := uns_le n (fun k => if k = i then true else S k); simp only [List.length_singleton]; omega, rfl, Nat.le_refl _, zu HWK, zu HR1, zu HV2, zu HD2⟩
    case round =>
     clear HWK HR1 HV2 HD2;obtain ⟨S, st, m, hun, hsl, hmn, hwk, hrow, hv, hd⟩ := hrel;have HUN := hide hun;have HV := hide hv;have HD := hide hd;have HR := hide hrow;have HWK := hide hwk;obtain ⟨us, cs, rfl, hcs, _⟩ := own_form hrow;have hlt2 := hv.lt;clear hrow hv hd hwk hlt
     by_cases hm : m = 0
     ·have d1 : decide (0 < m) = false := df (by omega)
      have d2 : decide ((m : Int) > 0) = false := df (by omega);have d3 : ¬ (m : Int) > 0 := by omega
      have d4 : decide ((0 : Int) < (m : Int)) = false := df (by omega)
      have HEN : Hid (∀ k, k < n → (S k = true ↔ Sn tf n (i + 1) k)) := hide (by
       have : st = [] := List.eq_nil_of_length_eq_zero (by omega);subst this
       exact (zu HWK).done h)
      clear hm hun hsl;go_wp2_with fail;go_roundw
      case rel => exact ⟨i + 1, S, by simp, h, by rw [zu HN, zu HPQ]; simp, zu HEN, zu HV, zu HD⟩
      case measure => simp only [intOf]; omega
     ·obtain ⟨st', ae, rfl⟩ : ∃ st' ae, st = st' ++ [ae] := by
       rcases List.eq_nil_or_concat st with e | ⟨a, b, e⟩
       ·subst e; simp at hsl; omega
       ·exact ⟨a, b, by simpa using e⟩
      obtain ⟨mp, hmp⟩ : ∃ q, st'.length = q := ⟨_, rfl⟩
      have hmm : m = mp + 1 := by simp at hsl; omega
      have d1 : decide (0 < m) = true := dt (by omega);have d2 : decide ((m : Int) > 0) = true := dt (by omega);have d3 : (m : Int) > 0 := by omega
      have d4 : decide ((0 : Int) < (m : Int)) = true := dt (by omega);have wm : IntKind.i64.wrap ((m : Int) - 1) = (mp : Int) := (wrap_i (by omega) (by omega)).trans (by omega);have p0 : (0 : Int) ≤ (mp : Int) := Int.natCast_nonneg _;have p1 : (mp : Int) < (m : Int) := by omega
      have p2 : (mp : Int) ≤ (cs : Int) := by omega
      have p3 : mp ≤ cs := by omega
      have p4 : mp < m := by omega
      have hrw : wr.ownsRow (w.heap.size + 1) 3 1 (.slice us (mp + 1) cs) (mp + 1) (flatG natc (st' ++ [ae])) := by rw [← hmm]; exact zu HR
      obtain ⟨gq, rfl, hgq1, hgq2, hgc⟩ := own_last natc_len hrw hmp;have cl := hgc 0 _ rfl;rw [Nat.mul_one, Nat.add_zero] at cl;have HR2 := hide (own_pop natc_len hrw hmp);have HLK := hide (zu HWK).look;have hae : ae < n := (zu HLK).at_.1;have HMP := hide hmp;have hq00 := zu HUN;simp only [List.length_append, List.length_singleton] at hq00
      obtain ⟨q0, hq0⟩ : ∃ q, uns n S + st'.length = q := ⟨_, rfl⟩
      have HQE := hide hq0;have hqg : q0 + 1 ≤ _ := Nat.le_trans (by omega) hq00;have hqn : q0 ≤ n := by omega
      have HMM := hide hmm;have hmp30 : mp ≤ n := by omega
      clear hmp hmm hrw hgc HR HWK hq0 hsl hun HUN hq00 hm;go_wp2_with fail;clear cl
      go_loopw [6, 8] (fun v s W => ∃ (k : Nat) (S : Nat → Bool) (st : List Nat) (t : Nat), s = .int .i64 (k : Int) ∧ k ≤ n ∧ t ≤ mp + k ∧ Look tf n i ae k S st ∧ uns n S + st.length = q0 ∧ st.length = t ∧ W.ownsRow (w.heap.size + 1) 3 1 v t (flatG natc st) ∧ vb W w.heap.size 4 (fnL n fun k => .bool (S k)) ∧ Below w.heap.size w W) (fun _ s _ => n - (intOf s).toNat)
      case atStart => exact ⟨0, S, st', mp, rfl, Nat.zero_le _, by omega, zu HLK, zu HQE, zu HMP, zu HR2, zu HV, zu HD⟩
      case round =>
       clear HLK HQE HMP HR2 HV HD hlt2;obtain ⟨k, S, st, t, rfl, hk, htk, hlk, hun, hsl, hrow, hv, hd⟩ := hrel;have HUN := hide hun;have HV := hide hv;have HD := hide hd;have HR := hide hrow;have HLK := hide hlk;have HSL := hide hsl;obtain ⟨us, cs2, rfl, _⟩ := own_form hrow;have hge := own_ge hrow;have HGE := hide hge;have hlt3 := hv.lt;clear hrow hd hlk hun hsl hge
       by_cases h' : k < n
       ·have j1 : (k : Int) < (n : Int) := by omega
        have j0 : (0 : Int) ≤ (k : Int) := Int.natCast_nonneg _;have jz : decide ((k : Int) < (n : Int)) = true := dt j1;have wk : IntKind.i64.wrap ((k : Int) + 1) = ((k + 1 : Nat) : Int) := (wrap_i (by omega) (by omega)).trans (by simp);have cs := hv.cell (fnL_at _ h');have HNH := hide (hide h')
        cases hsk : S k with
        | true =>
         rw [hsk] at cs;have HNL := hide ((zu HLK).skip (fun _ => hsk));clear hv hsk;go_wp2_with fail;refine Go.Code.wp_mono (Only.to (fun _ _ h => h)) (pc16t (hide cs) (zu HNH) ?_);intro W9 hb9;have HD9 := hide (bc (zu HD) hb9);have HV9 := hide ((zu HV).bel hb9);have HR9 := hide (own_bel (zu HR) hb9);clear hb9 cs;go_wp2_with fail;go_roundw
         case rel => exact ⟨k + 1, S, st, t, by simp, h', by omega, zu HNL, zu HUN, zu HSL, zu HR9, zu HV9, zu HD9⟩
         case measure => simp only [intOf]; omega
        | false =>
         rw [hsk] at cs;obtain ⟨ba', hba⟩ := get_some (zu HL) hae;obtain ⟨bb', hbb⟩ := get_some (zu HL) h';have sa := zu HB ba' (List.mem_of_getElem? hba);have sb := zu HB bb' (List.mem_of_getElem? hbb);have htv : tf ae k = tch ba' bb' := by rw [← zu HTT]; unfold tcl; rw [getD_atB hba, getD_atB hbb]
         have HTO := hide (fun X => touch_any ba' bb' X sa sb);have xa := ((zu HU).bel (zu HD)).at hba;have xb := ((zu HU).bel (zu HD)).at hbb;have aa := xa.2.2;have bb := xb.2.2;rw [← htv] at HTO;clear sa sb hba hbb xa xb htv;obtain ⟨a0, a1, a2, a3, a4, a5⟩ := ba';obtain ⟨b0, b1, b2, b3, b4, b5⟩ := bb';have HNA := hide (hide hae);have HSK := hide hsk;have HLE := hide ((zu HLK).skip (K := k));have HLP := hide ((zu HLK).push (K := k) h');have HUP := hide (uns_push (S := S) (K := k) hsk h');have fz := hv.frozen k;generalize tf ae k = tv at *;clear hv hsk;go_wp2_with fail
         refine Go.Code.wp_mono (Only.to (fun _ _ h => h)) (pc16f (tt := tv) (hide cs) (hide (aa 0 _ rfl)) (hide (aa 1 _ rfl)) (hide (aa 2 _ rfl)) (hide (aa 3 _ rfl)) (hide (aa 4 _ rfl)) (hide (aa 5 _ rfl)) (hide (bb 0 _ rfl)) (hide (bb 1 _ rfl)) (hide (bb 2 _ rfl)) (hide (bb 3 _ rfl)) (hide (bb 4 _ rfl)) (hide (bb 5 _ rfl)) (zu HNH) (zu HNA) (zu HNH) (hide fun X _ => zu HTO X) ?_);intro W9 hb9;have HD9 := hide (bc (zu HD) hb9);have HV9 := hide ((zu HV).bel hb9);have HR9 := hide (own_bel (zu HR) hb9);have hl9 := hb9.size;clear hb9 cs aa bb fz
         cases tv with
         | false =>
          have HNL := hide (zu HLE (fun h => by cases h));go_wp2_with fail;go_roundw
          case rel => exact ⟨k + 1, S, st, t, by simp, h', by omega, zu HNL, zu HUN, zu HSL, zu HR9, zu HV9, zu HD9⟩
          case measure => simp only [intOf]; omega
         | true =>
          have HNL := hide (zu HLP rfl);have c9 := (zu HV9).cell (fnL_at _ h');rw [zu HSK] at c9;have f9 := (zu HV9).frozen k;have HV10 := hide (seen_put (k := k) (zu HV9));have HD10 : Hid (Below w.heap.size w (W9.setCell ⟨w.heap.size, k, none⟩ (.bool true))) := hide (Below.setCell (zu HD9) (Nat.le_refl _) (p := ⟨w.heap.size, k, none⟩) (.bool true));have HR10 := hide (own_kept (zu HR9) (w' := W9.setCell ⟨w.heap.size, k, none⟩ (.bool true)) (fun j hj => Below.heap_setCell _ _ _ _ (by have := zu HGE j hj; show j ≠ w.heap.size; omega)))
          have hs10 : (W9.setCell ⟨w.heap.size, k, none⟩ (.bool true)).heap.size = W9.heap.size := by simp [World.setCell]
          have HS10 := hide hs10;clear hs10
          go_wp2_with (at_builtin; refine zu ?_)
          refine hide ?_;refine wpList_append_own _ rfl _ _ 94 rfl (w.heap.size + 1) 3 iT _ 1 8 Tryz.underlying94 ht ht0 ht1 ht2 rfl (by decide) _ t _ rfl (own_bel (zu HR10) (ba (bfl _ _) _)) _ 1 1 (natc k) rfl rfl (by first | exact news_cells _ _ rfl | exact news_cells _ _ (by simp [World.setCell])) (natc_one _) (by unfold maxLen; omega) (by omega) (by simp [World.setCell]; omega) ?_;intro v' w1 hown' hgrow _;have R := hide (own_app (c := natc) (Below.alloc (B := w.heap.size + 1) (bfl _ _) (by rw [zu HS10]; omega) _) (by simp [World.setCell]; omega) (zu HR10) hown' hgrow)
          have HV11 := hide ((zu HV10).below (zu R).2 (Nat.lt_succ_self _));have HD11 := hide ((zu HD10).trans ((zu R).2.mono (Nat.le_succ _)));clear hown' hgrow;go_wp2_with fail;go_roundw
          case rel => exact ⟨k + 1, _, st ++ [k], t + 1, by simp, h', by omega, zu HNL, by have := zu HUP; have := zu HUN; rw [List.length_append, List.length_singleton]; omega, by rw [List.length_append, zu HSL]; rfl, (zu R).1, zu HV11, zu HD11⟩
          case measure => simp only [intOf]; omega
       ·have j1 : ¬ (k : Int) < (n : Int) := by omega
        have jz : decide ((k : Int) < (n : Int)) = false := df j1;obtain rfl : k = n := by omega
        have HWE := hide (zu HLK).end_;clear hv;go_wp2_with fail
        go_roundg q0
        case measure => omega
        case rel => exact ⟨S, st, t, by rw [zu HUN]; exact Nat.le_refl _, zu HSL, by omega, zu HWE, zu HR, zu HV, zu HD⟩
  ·have i1 : ¬ (i : Int) < (n : Int) := by omega
   have iz : decide ((i : Int) < (n : Int)) = false := df i1;obtain rfl : i = n := by omega
   clear hS hv hd;go_wp2_with fail;go_ret;exact ⟨ret_int (by rw [zu HPQ]), zu HD⟩
end Go.Proofs.YtkiplmabjeadgaaGreat
