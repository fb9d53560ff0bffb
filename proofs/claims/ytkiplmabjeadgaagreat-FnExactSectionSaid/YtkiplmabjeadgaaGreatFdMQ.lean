/- The map from names to the numbers of features. -/
import Derived.Test.YtkiplmabjeadgaaGreatFoMathQ
import Derived.Maps.OwnSet
namespace Go.Proofs.YtkiplmabjeadgaaGreat
set_option maxRecDepth 100000
set_option maxHeartbeats 16000000
open Go.ChangeShapes Go.WideShapes Go.ChangeAt Go.RowKit
set_option linter.unusedVariables false
set_option linter.unusedSimpArgs false
def findI (fs : List Ft) (s : ByteArray) : Int := match findN fs s with | some k => (k : Int) | none => -1
theorem findN_of {fs : List Ft} {s : ByteArray} {i : Nat} {f : Ft} (h : fs[i]? = some f) (h1 : sEq f.nm s = true) (h2 : ∀ (j : Nat) (g : Ft), j < i → fs[j]? = some g → sEq g.nm s = false) : findN fs s = some i := by
 unfold findN;rw [List.findIdx?_eq_some_iff_getElem];obtain ⟨hi, e⟩ := List.getElem?_eq_some_iff.1 h;refine ⟨hi, by rw [e]; exact h1, fun j hj => ?_⟩;rw [h2 j _ hj (List.getElem?_eq_getElem (by omega))];simp
theorem findN_no {fs : List Ft} {s : ByteArray} (h2 : ∀ (j : Nat) (g : Ft), fs[j]? = some g → sEq g.nm s = false) : findN fs s = none := by
 unfold findN;rw [List.findIdx?_eq_none_iff];intro f hf;obtain ⟨j, hj, rfl⟩ := List.getElem_of_mem hf;rw [h2 j _ (List.getElem?_eq_getElem hj)]
theorem findN_at {fs : List Ft} {s : ByteArray} {i : Nat} (h : findN fs s = some i) : ∃ f, fs[i]? = some f ∧ f.nm = s := by
 unfold findN at h;rw [List.findIdx?_eq_some_iff_getElem] at h;obtain ⟨hi, h1, _⟩ := h;exact ⟨_, List.getElem?_eq_getElem hi, sEq_iff.1 h1⟩
theorem findI_some {fs : List Ft} {s : ByteArray} {k : Nat} (h : findN fs s = some k) : findI fs s = (k : Int) := by unfold findI; rw [h]
theorem findI_none {fs : List Ft} {s : ByteArray} (h : findN fs s = none) : findI fs s = -1 := by unfold findI; rw [h]
theorem find_any (u : Option Addr) (p po n cu : Nat) (fs : List Ft) (s : ByteArray) (w : World) (hl : fs.length = n) (hn : n ≤ 1048576) (hu : SlG ftc 15 w u p po fs) :
  Calls Tryz.prog 75 #[.slice u n cu, .string s] w fun e w' => e = .returned (.int .i64 (findI fs s)) ∧ w' = w := by
 have HU := hide hu;have HL := hide hl;clear hu hl;go_enter Tryz.func75, Tryz.ntmps75;go_wp2
 go_loopw [5] (fun z W => ∃ i : Nat, z = .int .i64 (i : Int) ∧ i ≤ n ∧ (∀ j g, j < i → fs[j]? = some g → sEq g.nm s = false) ∧ W = w) (fun z _ => n - (intOf z).toNat)
 case atStart => exact ⟨0, rfl, Nat.zero_le _, fun j g hj => by omega, rfl⟩
 case round =>
  obtain ⟨i, rfl, hi, hno, hw⟩ := hrel;subst hw;have HN := hide hno;clear hno
  by_cases h : i < n
  ·have i1 : (i : Int) < (n : Int) := by omega
   have i0 : (0 : Int) ≤ (i : Int) := Int.natCast_nonneg _;have iz : decide ((i : Int) < (n : Int)) = true := dt i1;obtain ⟨f, hx⟩ := get_some (zu HL) h;obtain ⟨rfl, pw, hc⟩ := (zu HU).at hx;have k0 := hc 0 (.string f.nm) rfl;rw [Nat.add_zero] at k0;have HX := hide hx;clear hx hc pw
   cases hq : sEq f.nm s
   ·have hq' : (f.nm.toList == s.toList) = false := hq
    have HQ := hide hq;clear hq;go_wp2_with fail;go_roundw
    case rel =>
     refine ⟨i + 1, by simp, h, ?_, by first | rfl | trivial⟩;intro j g hj hg
     by_cases e : j = i
     ·subst e
      rw [zu HX] at hg
      cases hg
      exact zu HQ
     ·exact zu HN j g (by omega) hg
    case measure => simp only [intOf]; omega
   ·have hq' : (f.nm.toList == s.toList) = true := hq
    have HQ := hide hq;clear hq;go_wp2_with fail;go_ret;exact ⟨ret_int (findI_some (findN_of (zu HX) (zu HQ) (zu HN))).symm, rfl⟩
  ·have i1 : ¬ (i : Int) < (n : Int) := by omega
   have iz : decide ((i : Int) < (n : Int)) = false := df i1;go_wp2_with fail;go_ret;refine ⟨ret_int (findI_none (findN_no fun j g hg => zu HN j g ?_ hg)).symm, rfl⟩;have := (List.getElem?_eq_some_iff.1 hg).1;rw [zu HL] at this;omega
theorem SlG.take {α : Type} {c : α → List Value} {k : Nat} {w : World} {u : Option Addr} {p po : Nat} {l : List α} (h : SlG c k w u p po l) (m : Nat) : SlG c k w u p po (l.take m) := by
 intro h0;have hl : l ≠ [] := by intro e; subst e; simp at h0
 obtain ⟨h1, h2, h3⟩ := h hl;refine ⟨h1, h2, fun i a hi => h3 i a ?_⟩;rw [List.getElem?_take] at hi
 split at hi
 ·exact hi
 ·cases hi
def wrgS (fs : List Ft) (f : Ft) : ByteArray := (wrg fs f).getD ⟨#[]⟩
theorem emp_l (s : ByteArray) : emp s = (s.toList == []) := by
 unfold emp sEq;rw [show (⟨#[]⟩ : ByteArray).toList = [] by rw [ByteArray.toList_eq]]
theorem wrongM_any (u : Option Addr) (p po n cu : Nat) (fs : List Ft) (f : Ft) (w : World) (hl : fs.length = n) (hn : n ≤ 1048576) (hu : SlG ftc 15 w u p po fs) (h1 : emp f.on = true ∨ emp f.ov = true) :
  Calls Tryz.prog 106 #[.slice u n cu, ftv f] w fun e w' => e = .returned (.string (wrgS fs f)) ∧ Below w.heap.size w w' := by
 obtain ⟨s, o, v, k, d, x0, y0, z0, x1, y1, z1, ct, dx, dy, dz⟩ := f;have HU := hide (hu.bel (ba (bfl w.heap.size w) (.cells #[.string s, .string o, .string v, .int .i64 k, .int .i64 d, .int .i64 x0, .int .i64 y0, .int .i64 z0, .int .i64 x1, .int .i64 y1, .int .i64 z1, .int .i64 ct, .int .i64 dx, .int .i64 dy, .int .i64 dz] 75)));have FO := hide (fun W (h : SlG ftc 15 W u p po fs) => find_any u p po n cu fs o W hl hn h);have FV := hide (fun W (h : SlG ftc 15 W u p po fs) => find_any u p po n cu fs v W hl hn h)
 have HB := hide (ba (bfl w.heap.size w) (.cells #[.string s, .string o, .string v, .int .i64 k, .int .i64 d, .int .i64 x0, .int .i64 y0, .int .i64 z0, .int .i64 x1, .int .i64 y1, .int .i64 z1, .int .i64 ct, .int .i64 dx, .int .i64 dy, .int .i64 dz] 75));have HL := hide hl;clear hu hl
 have hE : wrgS fs ⟨s, o, v, k, d, x0, y0, z0, x1, y1, z1, ct, dx, dy, dz⟩ = if emp o = false ∧ findN fs o = none then o else if emp v = false then (match findN fs v with | none => v | some q => if (fs.getD q ft0).kd = 3 ∨ emp (fs.getD q ft0).on = false then v else ⟨#[]⟩) else ⟨#[]⟩ := by
  unfold wrgS wrg;simp only
  split
  ·rfl
  ·split
   ·split
    ·rename_i h; rw [h]; rfl
    ·rename_i h; rw [h]; simp only; split <;> rfl
   ·rfl
 rw [hE];have tail : ∀ (rv : ByteArray), rv = (if emp v = false then (match findN fs v with | none => v | some q => if (fs.getD q ft0).kd = 3 ∨ emp (fs.getD q ft0).on = false then v else ⟨#[]⟩) else ⟨#[]⟩) → True := fun _ _ => trivial
 clear tail hE
 by_cases eo : o.toList = []
 ·have eo' : (o.toList == []) = true := by simp [eo]
  have c1 : emp o = true := by rw [emp_l]; exact eo'
  rw [if_neg (by rw [c1]; simp)]
  by_cases ev : v.toList = []
  ·have ev' : (v.toList == []) = true := by simp [ev]
   have c2 : emp v = true := by rw [emp_l]; exact ev'
   rw [if_neg (by rw [c2]; simp)];clear c1 c2;unfold ftv;go_enter Tryz.func106, Tryz.ntmps106;go_wp2_with fail;go_ret;exact ⟨rfl, zu HB⟩
  ·have ev' : (v.toList == []) = false := by simpa using ev
   have c2 : emp v = false := by rw [emp_l]; exact ev'
   rw [if_pos c2];clear c1 c2
   cases hf : findN fs v with
   | none =>
    rw [findI_none hf] at FV;clear hf;unfold ftv;go_enter Tryz.func106, Tryz.ntmps106;go_wp2_with fail;refine (zu FV _ (zu HU)).mono ?_;rintro e W1 ⟨rfl, rfl⟩;go_wp2_with fail;go_ret;exact ⟨rfl, zu HB⟩
   | some q =>
    rw [findI_some hf] at FV;obtain ⟨g, hg, _⟩ := findN_at hf;have hq : (q : Int) < (n : Int) := by have := findN_lt hf; have := zu HL; omega
    have hq0 : ¬ (q : Int) < 0 := by omega
    have hqz : decide ((q : Int) < 0) = false := df hq0;have hqn : (0 : Int) ≤ (q : Int) := by omega
    simp only [List.getD_eq_getElem?_getD, hg, Option.getD_some];obtain ⟨rfl, pw, hc⟩ := (zu HU).at hg;have k1 := hc 1 (.string g.on) rfl;have k3 := hc 3 (.int .i64 g.kd) rfl;clear hc hf hg
    by_cases q3 : g.kd = 3
    ·rw [if_pos (.inl q3)]
     have q3' : (g.kd == 3) = true := by simp [q3]
     clear q3;unfold ftv;go_enter Tryz.func106, Tryz.ntmps106;go_wp2_with fail;refine (zu FV _ (zu HU)).mono ?_;rintro e W1 ⟨rfl, rfl⟩;go_wp2_with fail;go_ret;exact ⟨rfl, zu HB⟩
    ·have q3' : (g.kd == 3) = false := by simpa using q3
     by_cases q4 : g.on.toList = []
     ·have q4' : (g.on.toList == []) = true := by simp [q4]
      rw [if_neg (by rw [emp_l, q4']; simp [q3])];unfold ftv;go_enter Tryz.func106, Tryz.ntmps106;go_wp2_with fail;refine (zu FV _ (zu HU)).mono ?_;rintro e W1 ⟨rfl, rfl⟩;go_wp2_with fail;go_ret;exact ⟨rfl, zu HB⟩
     ·have q4' : (g.on.toList == []) = false := by simpa using q4
      rw [if_pos (by rw [emp_l, q4']; simp)];unfold ftv;go_enter Tryz.func106, Tryz.ntmps106;go_wp2_with fail;refine (zu FV _ (zu HU)).mono ?_;rintro e W1 ⟨rfl, rfl⟩;go_wp2_with fail;go_ret;exact ⟨rfl, zu HB⟩
 ·have eo' : (o.toList == []) = false := by simpa using eo
  have c1 : emp o = false := by rw [emp_l]; exact eo'
  have c2 : emp v = true := by
   rcases h1 with h | h
   ·simp only at h; rw [c1] at h; cases h
   ·exact h
  have ev' : (v.toList == []) = true := by rw [← emp_l]; exact c2
  have ev : v.toList = [] := by simpa using ev'
  clear h1
  cases hf : findN fs o with
  | none =>
   rw [if_pos ⟨c1, rfl⟩];rw [findI_none hf] at FO;clear hf c1 c2;unfold ftv;go_enter Tryz.func106, Tryz.ntmps106;go_wp2_with fail;refine (zu FO _ (zu HU)).mono ?_;rintro e W1 ⟨rfl, rfl⟩;go_wp2_with fail;go_ret;exact ⟨rfl, zu HB⟩
  | some q =>
   rw [if_neg (by simp), if_neg (by rw [c2]; simp)];rw [findI_some hf] at FO;have hq0 : ¬ (q : Int) < 0 := by omega
   have hqz : decide ((q : Int) < 0) = false := df hq0;clear hf c1 c2;unfold ftv;go_enter Tryz.func106, Tryz.ntmps106;go_wp2_with fail;refine (zu FO _ (zu HU)).mono ?_;rintro e W1 ⟨rfl, rfl⟩;go_wp2_with fail;go_ret;exact ⟨rfl, zu HB⟩
def nats (l : List Nat) : List Int := l.map fun k : Nat => (k : Int)
theorem info3 : (Tryz.prog.info? 3).map (fun i => (i.zero, i.size, i.bytes)) = some (some (.int .i64 0), 1, 8) := by kernel_rfl
theorem keepN {B : Nat} {w w' : World} (hb : Below B w w') {b o : Nat} {v : Value} (h : w.cell? ⟨b, o, none⟩ = some v) (hB : b < B) : w'.cell? ⟨b, o, none⟩ = some v := (hb.cell (p := ⟨b, o, none⟩) hB).trans h
theorem namesM_any (u : Option Addr) (p po n cu : Nat) (fs : List Ft) (f : Ft) (w : World) (hl : fs.length = n) (hn : n ≤ 1048576) (hu : SlG ftc 15 w u p po fs) (h1 : emp f.on = true ∨ emp f.ov = true) (h2 : wrg fs f = none) :
  Calls Tryz.prog 107 #[.slice u n cu, ftv f] w fun e w' => ∃ v, e = .returned v ∧ Row w' (w.heap.size + 1) 3 1 v (nmd fs f).length (nats (nmd fs f)) ∧ Below w.heap.size w w' := by
 obtain ⟨s, o, v, k, d, x0, y0, z0, x1, y1, z1, ct, dx, dy, dz⟩ := f;obtain ⟨i0, hi, hz0, hz1, hz2⟩ := info_parts info3;have HU := hide ((hu.bel (ba (bfl w.heap.size w) (.cells #[.string s, .string o, .string v, .int .i64 k, .int .i64 d, .int .i64 x0, .int .i64 y0, .int .i64 z0, .int .i64 x1, .int .i64 y1, .int .i64 z1, .int .i64 ct, .int .i64 dx, .int .i64 dy, .int .i64 dz] 75))).bel (ba (bfl _ _) (.cells #[] 3)));have FO := hide (fun W (h : SlG ftc 15 W u p po fs) => find_any u p po n cu fs o W hl hn h)
 have FV := hide (fun W (h : SlG ftc 15 W u p po fs) => find_any u p po n cu fs v W hl hn h);have HB := hide (ba (ba (bfl w.heap.size w) (.cells #[.string s, .string o, .string v, .int .i64 k, .int .i64 d, .int .i64 x0, .int .i64 y0, .int .i64 z0, .int .i64 x1, .int .i64 y1, .int .i64 z1, .int .i64 ct, .int .i64 dx, .int .i64 dy, .int .i64 dz] 75)) (.cells #[] 3))
 have HR := hide (row_made (w.alloc (.cells #[.string s, .string o, .string v, .int .i64 k, .int .i64 d, .int .i64 x0, .int .i64 y0, .int .i64 z0, .int .i64 x1, .int .i64 y1, .int .i64 z1, .int .i64 ct, .int .i64 dx, .int .i64 dy, .int .i64 dz] 75)) 3 (w.heap.size + 1) 1 (by simp) _ rfl);simp only [World.size_alloc] at HR;have HL := hide hl;clear hu hl;unfold wrg at h2;unfold nmd;simp only at h1 h2 ⊢
 by_cases eo : o.toList = []
 ·have eo' : (o.toList == []) = true := by simp [eo]
  have c1 : emp o = true := by rw [emp_l]; exact eo'
  rw [if_pos c1]
  by_cases ev : v.toList = []
  ·have ev' : (v.toList == []) = true := by simp [ev]
   have c2 : emp v = true := by rw [emp_l]; exact ev'
   rw [if_pos c2];clear c1 c2 h1 h2;unfold ftv;go_enter Tryz.func107, Tryz.ntmps107;go_wp2_with fail;go_ret;exact ⟨_, rfl, zu HR, zu HB⟩
  ·have ev' : (v.toList == []) = false := by simpa using ev
   have c2 : emp v = false := by rw [emp_l]; exact ev'
   rw [if_neg (by rw [c2]; simp)]
   cases hf : findN fs v with
   | none => rw [c1, c2, hf] at h2; simp at h2
   | some q =>
    rw [findI_some hf] at FV;clear c1 c2 h1 h2;unfold ftv;go_enter Tryz.func107, Tryz.ntmps107;go_wp2_with fail;refine (zu FV _ (zu HU)).mono ?_;rintro e W1 ⟨rfl, rfl⟩
    go_wp2_with (at_builtin; refine zu ?_)
    refine hide ?_;refine wpList_append_own _ rfl _ _ 94 rfl (w.heap.size + 1) 3 i0 _ 1 8 Tryz.underlying94 hi hz0 hz1 hz2 rfl (by decide) _ _ _ rfl ((zu HR).alloc _) _ 1 1 ([(q : Int)].map (Value.int .i64)) rfl rfl (by first | exact news_cells _ _ (by simp) | exact news_drew _ _ (by simp)) ints_one (by unfold maxLen; omega) (by omega) (by simp) ?_;intro v' w1 hown' hgrow _;have R := hide (own_more (news := [(q : Int)]) (ba (bfl _ _) _ |>.mono (by simp)) (by simp) (zu HR) hown' hgrow);clear hown' hgrow;go_wp2_with fail;go_ret;exact ⟨_, rfl, (zu R).1, (zu HB).trans ((zu R).2.mono (by omega))⟩
 ·have eo' : (o.toList == []) = false := by simpa using eo
  have c1 : emp o = false := by rw [emp_l]; exact eo'
  rw [if_neg (by rw [c1]; simp)]
  have c2 : emp v = true := by
   rcases h1 with h | h
   ·rw [c1] at h; cases h
   ·exact h
  have ev' : (v.toList == []) = true := by rw [← emp_l]; exact c2
  have ev : v.toList = [] := by simpa using ev'
  rw [if_pos c2]
  cases hf : findN fs o with
  | none => rw [c1, c2, hf] at h2; simp at h2
  | some q =>
   rw [findI_some hf] at FO;clear c1 c2 h1 h2;unfold ftv;go_enter Tryz.func107, Tryz.ntmps107;go_wp2_with fail;refine (zu FO _ (zu HU)).mono ?_;rintro e W1 ⟨rfl, rfl⟩
   go_wp2_with (at_builtin; refine zu ?_)
   refine hide ?_;refine wpList_append_own _ rfl _ _ 94 rfl (w.heap.size + 1) 3 i0 _ 1 8 Tryz.underlying94 hi hz0 hz1 hz2 rfl (by decide) _ _ _ rfl ((zu HR).alloc _) _ 1 1 ([(q : Int)].map (Value.int .i64)) rfl rfl (by first | exact news_cells _ _ (by simp) | exact news_drew _ _ (by simp)) ints_one (by unfold maxLen; omega) (by omega) (by simp) ?_;intro v' w1 hown' hgrow _;have R := hide (own_more (news := [(q : Int)]) (ba (bfl _ _) _ |>.mono (by simp)) (by simp) (zu HR) hown' hgrow);have y2 := keepN (zu R).2 (b := w.heap.size) (o := 2) (v := .string v) (by simp [go_sem]) (by omega)
   clear hown' hgrow;go_wp2_with fail;go_ret;exact ⟨_, rfl, (zu R).1, (zu HB).trans ((zu R).2.mono (by omega))⟩
def Inn (w : World) (v : Value) (l : List Nat) : Prop := ∃ (u : Option Addr) (c : Nat), v = .slice u l.length c ∧ (l ≠ [] → ∃ g o, u = some ⟨g, o, none⟩ ∧ g < w.heap.size ∧ IntsAt w g o (nats l))
theorem Inn.bel {w w' : World} {v : Value} {l : List Nat} (h : Inn w v l) (hb : Below w.heap.size w w') : Inn w' v l := by
 obtain ⟨u, c, rfl, h1⟩ := h;refine ⟨u, c, rfl, fun h0 => ?_⟩;obtain ⟨g, o, rfl, hg, hi⟩ := h1 h0;exact ⟨g, o, rfl, Nat.lt_of_lt_of_le hg hb.size, hi.below hb hg⟩
theorem nats_len (l : List Nat) : (nats l).length = l.length := by simp [nats]
theorem nats_at {l : List Nat} {i x : Nat} (h : l[i]? = some x) : (nats l)[i]? = some (x : Int) := by simp [nats, h]
theorem Row.inn {w : World} {B t : Nat} {v : Value} {l : List Nat} (h : Row w B t 1 v l.length (nats l)) : Inn w v l := by
 obtain ⟨u, c, rfl, h1⟩ := h.form;refine ⟨u, c, rfl, fun h0 => ?_⟩;obtain ⟨g, rfl, _, hg, hi⟩ := h1 (by intro e; exact h0 (List.eq_nil_of_length_eq_zero e));exact ⟨g, 0, rfl, hg, hi⟩
def NmAt (w : World) (u : Option Addr) (nm : List (List Nat)) : Prop := nm ≠ [] → ∃ g o, u = some ⟨g, o, none⟩ ∧ g < w.heap.size ∧ ∀ i l, nm[i]? = some l → ∃ v, w.cell? ⟨g, o + i, none⟩ = some v ∧ Inn w v l
theorem NmAt.bel {w w' : World} {u : Option Addr} {nm : List (List Nat)} (h : NmAt w u nm) (hb : Below w.heap.size w w') : NmAt w' u nm := by
 intro h0;obtain ⟨g, o, rfl, hg, hi⟩ := h h0;refine ⟨g, o, rfl, Nat.lt_of_lt_of_le hg hb.size, fun i l hl => ?_⟩;obtain ⟨v, hc, hv⟩ := hi i l hl;exact ⟨v, (hb.cell (p := ⟨g, _, none⟩) hg).trans hc, hv.bel hb⟩
theorem NmAt.at {w : World} {u : Option Addr} {nm : List (List Nat)} (h : NmAt w u nm) {i : Nat} {l : List Nat} (hi : nm[i]? = some l) : ∃ g o, u = some ⟨g, o, none⟩ ∧ ∃ x c, w.cell? ⟨g, o + i, none⟩ = some (.slice x l.length c) ∧ (l ≠ [] → ∃ b q, x = some ⟨b, q, none⟩ ∧ ∀ (k y : Nat), l[k]? = some y → w.cell? ⟨b, q + k, none⟩ = some (.int .i64 (y : Int))) := by
 obtain ⟨g, o, rfl, hg, h1⟩ := h (by intro e; subst e; cases hi);obtain ⟨v, hc, x, c, rfl, hx⟩ := h1 i l hi;refine ⟨g, o, rfl, x, c, hc, fun h0 => ?_⟩;obtain ⟨b, q, rfl, hb, hI⟩ := hx h0;exact ⟨b, q, rfl, fun k y hk => hI k _ (nats_at hk)⟩
def bl (n : Nat) (o : List Nat) : List Value := (List.range n).map fun i => Value.bool (o.contains i)
theorem bl_len (n : Nat) (o : List Nat) : (bl n o).length = n := by simp [bl]
theorem bl_at {n : Nat} {o : List Nat} {i : Nat} (h : i < n) : (bl n o)[i]? = some (.bool (o.contains i)) := by simp [bl, h]
theorem bl_set {n : Nat} {o : List Nat} {i : Nat} (h : i < n) : (bl n o).set i (.bool true) = bl n (o ++ [i]) := by
 apply List.ext_getElem?;intro j
 by_cases hj : j < n
 ·rw [bl_at hj, List.getElem?_set]
  by_cases e : i = j
  ·subst e
   simp [h, bl_len]
  ·rw [if_neg e, bl_at hj]
   have : (o ++ [i]).contains j = o.contains j := by
    simp only [List.contains_eq_mem, List.mem_append, List.mem_singleton, decide_eq_decide];constructor
    ·rintro (h | h)
     ·exact h
     ·exact (e h.symm).elim
    ·exact Or.inl
   rw [this]
 ·rw [List.getElem?_eq_none (by rw [List.length_set, bl_len]; omega), List.getElem?_eq_none (by rw [bl_len]; omega)]
theorem made_one (z : Value) (n : Nat) : madeCells #[z] n = (List.replicate n z).toArray := by
 apply Array.ext
 ·simp [madeCells]
 ·intro i h1 h2
  have : i % 1 = 0 := Nat.mod_one i;simp [madeCells, this]
theorem make_vals {P : Program} (t e bytes n : Nat) (z : Value) (hc : z.cells = #[z]) (ht : P.underlying t = some (.slice e))
  (hi : (P.info? e).map (fun i => (i.zero, i.size, i.bytes)) = some (some z, 1, bytes)) (hb : bytes * n ≤ 281474976710656) (hn : n ≤ 9223372036854775807) (W : World) :
  (Instr.makeSlice t (.int .i64 (n : Int)) (.int .i64 (n : Int))).run P W = .ok (.slice (some ⟨W.heap.size, 0, none⟩) n n) (W.alloc (.cells (List.replicate n z).toArray e)) := by
 obtain ⟨i, hx, h0, h1, h2⟩ := info_parts hi
 have hb' : (i.bytes : Int) * (n : Int) ≤ 281474976710656 := by
  have h3 : ((bytes * n : Nat) : Int) ≤ 281474976710656 := by omega
  rw [h2]
  rwa [Int.natCast_mul] at h3
 have := run_make (P := P) W t e i z ht hx h0 .i64 .i64 n n (by omega) (by omega) hb' (by omega);rw [Int.toNat_natCast, h1, hc, Nat.mul_one, made_one] at this;exact this
theorem info4 : (Tryz.prog.info? 4).map (fun i => (i.zero, i.size, i.bytes)) = some (some (.bool false), 1, 1) := by kernel_rfl
theorem bl_nil (n : Nat) : bl n [] = List.replicate n (.bool false) := by
 apply List.ext_getElem?;intro j
 by_cases hj : j < n
 ·rw [bl_at hj]; simp [List.getElem?_replicate, hj]
 ·rw [List.getElem?_eq_none (by rw [bl_len]; omega), List.getElem?_eq_none (by simp; omega)]
def vis (s : Nat → Option Nat) (t i : Nat) : List Nat := (List.range t).map fun u => (it s (u + 1) i).getD 0
theorem vis_len (s : Nat → Option Nat) (t i : Nat) : (vis s t i).length = t := by simp [vis]
theorem vis_succ (s : Nat → Option Nat) (t i : Nat) : vis s (t + 1) i = vis s t i ++ [(it s (t + 1) i).getD 0] := by simp [vis, List.range_succ]
structure Way (s : Nat → Option Nat) (n i t x : Nat) : Prop where
 last : it s t i = some x
 xlt : x < n
 away : ∀ u, 0 < u → u ≤ t → it s u i ≠ some i
 nd : (vis s t i).Nodup
 lt : ∀ z ∈ vis s t i, z < n
theorem Way.all {s : Nat → Option Nat} {n i t x : Nat} (h : Way s n i t x) {u : Nat} (hu : u ≤ t) : ∃ z, it s u i = some z := by
 cases e : it s u i with
 | some z => exact ⟨z, rfl⟩
 | none =>
  have := it_none e hu;rw [h.last] at this
  cases this
theorem Way.start {s : Nat → Option Nat} {n i : Nat} (h : i < n) : Way s n i 0 i := ⟨rfl, h, fun u h1 h2 => by omega, by simp [vis], by simp [vis]⟩
theorem Way.le {s : Nat → Option Nat} {n i t x : Nat} (h : Way s n i t x) : t ≤ n := by
 have := nodup_len _ n h.nd h.lt
 rwa [vis_len] at this
theorem Way.more {s : Nat → Option Nat} {n i t x y : Nat} (h : Way s n i t x) (hs : s x = some y) (hy : y < n) (hi : y ≠ i) (hv : y ∉ vis s t i) : Way s n i (t + 1) y := by
 have e : it s (t + 1) i = some y := by simp [it, h.last, hs]
 refine ⟨e, hy, ?_, ?_, ?_⟩
 ·intro u h1 h2
  by_cases g : u = t + 1
  ·subst g
   rw [e];intro k;exact hi (Option.some.inj k)
  ·exact h.away u h1 (by omega)
 ·rw [vis_succ, e, List.nodup_append]
  refine ⟨h.nd, by simp, ?_⟩;intro a ha b hb;simp at hb;subst hb;intro k;subst k;exact hv ha
 ·rw [vis_succ, e]
  intro z hz
  rcases List.mem_append.1 hz with g | g
  ·exact h.lt z g
  ·simp at g; omega
theorem Way.visS {s : Nat → Option Nat} {n i t x y : Nat} (h : Way s n i t x) (hs : s x = some y) : vis s (t + 1) i = vis s t i ++ [y] := by
 rw [vis_succ];simp [it, h.last, hs]
theorem Way.pathS {s : Nat → Option Nat} {n i t x y : Nat} (h : Way s n i t x) (hs : s x = some y) : path s (t + 2) i = path s (t + 1) i ++ [y] := by
 show path s (t + 1) i ++ _ = _
 simp [it, h.last, hs]
theorem Way.lastOf {s : Nat → Option Nat} {n i t x : Nat} (h : Way s n i t x) : (path s (t + 1) i)[t]? = some x := by
 show (path s t i ++ _)[t]? = _
 rw [List.getElem?_append_right (by rw [path_len]; omega), path_len, Nat.sub_self, h.last];rfl
theorem Way.back {s : Nat → Option Nat} {n i t x : Nat} (h : Way s n i t x) (hs : s x = some i) : Cyc s i (path s (t + 1) i) :=
 .inl ⟨t + 1, ⟨by omega, by simp [it, h.last, hs], fun u h1 h2 => h.away u h1 (by omega)⟩, rfl⟩
theorem Way.stop {s : Nat → Option Nat} {n i t x : Nat} (h : Way s n i t x) (hs : ∀ y, s x = some y → y ≠ i ∧ y ∈ vis s t i) : Cyc s i [] := by
 refine .inr ⟨?_, rfl⟩;intro L f
 have key : ∀ L, 0 < L → ∀ z, it s L i = some z → z ∈ vis s t i ∨ (t = 0 ∧ False) := by
  intro L
  induction L with
  | zero => intro h0; omega
  | succ L ih =>
   intro _ z hz
   by_cases hL : L + 1 ≤ t
   ·left
    unfold vis;rw [List.mem_map];exact ⟨L, by simp; omega, by simp [hz]⟩
   ·by_cases h0 : L = t
    ·subst h0
     rw [it, h.last] at hz;exact .inl (hs z hz).2
    ·have hL2 : 0 < L := by omega
     rw [it] at hz
     cases e : it s L i with
     | none => rw [e] at hz; cases hz
     | some a =>
      rw [e] at hz
      rcases ih hL2 a e with g | ⟨_, g⟩
      ·unfold vis at g
       rw [List.mem_map] at g;obtain ⟨u, hu, hg⟩ := g;have hu' : u < t := by simpa using hu
       obtain ⟨b, hb⟩ := h.all (u := u + 1) (by omega);rw [hb] at hg;simp only [Option.getD_some] at hg;subst hg
       by_cases hut : u + 1 = t
       ·subst hut
        rw [h.last] at hb
        cases hb
        exact .inl (hs z hz).2
       ·left
        unfold vis;rw [List.mem_map];refine ⟨u + 1, by simp; omega, ?_⟩;simp only [it] at hb ⊢;rw [hb];have hz' : s b = some z := hz;simp [hz']
      ·exact g.elim
 rcases key L f.1 i f.2.1 with g | ⟨_, g⟩
 ·unfold vis at g
  rw [List.mem_map] at g;obtain ⟨u, hu, hg⟩ := g;have hu' : u < t := by simpa using hu
  obtain ⟨b, hb⟩ := h.all (u := u + 1) (by omega);rw [hb] at hg;simp only [Option.getD_some] at hg;subst hg;exact h.away (u + 1) (by omega) (by omega) hb
 ·exact g
theorem it_lt {nm : List (List Nat)} (ho : Oneful nm) {i : Nat} (hi : i < nm.length) : ∀ (t x : Nat), it (sc nm) t i = some x → x < nm.length := by
 intro t
 cases t with
 | zero => intro x h; cases h; exact hi
 | succ t =>
  intro x h;rw [it] at h
  cases e : it (sc nm) t i with
  | none => rw [e] at h; cases h
  | some a => rw [e] at h; exact (sc_lt ho h).2
theorem path_mem {s : Nat → Option Nat} {L i x : Nat} (h : x ∈ path s L i) : ∃ t, t < L ∧ x = (it s t i).getD 0 := by
 induction L with
 | zero => simp [path] at h
 | succ L ih =>
  rcases List.mem_append.1 h with g | g
  ·obtain ⟨t, h1, h2⟩ := ih g
   exact ⟨t, by omega, h2⟩
  ·simp only [List.mem_singleton] at g
   exact ⟨L, by omega, g⟩
theorem Cyc.lt {nm : List (List Nat)} (ho : Oneful nm) {i : Nat} (hi : i < nm.length) {c : List Nat} (h : Cyc (sc nm) i c) : ∀ x ∈ c, x < nm.length := by
 rcases h with ⟨L, f, rfl⟩ | ⟨_, rfl⟩
 ·intro x hx
  obtain ⟨t, ht, rfl⟩ := path_mem hx;obtain ⟨p, hp, _⟩ := f.rest ht;rw [hp];exact it_lt ho hi t p hp
 ·simp
theorem First.inj {s : Nat → Option Nat} {i L : Nat} (f : First s i i L) : ∀ (a b : Nat), a < b → b < L → it s a i ≠ it s b i := by
 intro a b hab hb e;obtain ⟨p, hp, fp⟩ := f.rest (show a < L by omega);obtain ⟨q, hq, fq⟩ := f.rest hb;rw [hp, hq] at e
 cases e
 have := fp.uniq fq;omega
theorem Cyc.len {nm : List (List Nat)} (ho : Oneful nm) {i : Nat} (hi : i < nm.length) {c : List Nat} (h : Cyc (sc nm) i c) : c.length ≤ nm.length := by
 rcases h with ⟨L, f, rfl⟩ | ⟨_, rfl⟩
 ·rw [path_len]
  rcases Nat.lt_or_ge nm.length L with g | g
  ·exfalso
   obtain ⟨a, b, h1, h2, h3⟩ := pigeon nm.length (fun t => (it (sc nm) t i).getD 0) (by
    intro t ht;obtain ⟨p, hp, _⟩ := f.rest (show t < L by omega);simp only [hp, Option.getD_some]
    exact it_lt ho hi t p hp)
   obtain ⟨p, hp, _⟩ := f.rest (show a < L by omega);obtain ⟨q, hq, _⟩ := f.rest (show b < L by omega);simp only [hp, hq, Option.getD_some] at h3;exact f.inj a b h1 (by omega) (by rw [hp, hq, h3])
  ·exact g
 ·simp
theorem Bst.lt {nm : List (List Nat)} {k : Nat} {b : List Nat} (h : Bst (sc nm) k b) (ho : Oneful nm) (hk : k ≤ nm.length) : ∀ x ∈ b, x < nm.length := by
 induction k generalizing b with
 | zero => rw [show b = [] from h]; simp
 | succ k ih =>
  obtain ⟨b0, c, h1, h2, rfl⟩ := h;unfold better
  split
  ·exact h2.lt ho (by omega)
  ·exact ih h1 (by omega)
theorem Bst.len {nm : List (List Nat)} {k : Nat} {b : List Nat} (h : Bst (sc nm) k b) (ho : Oneful nm) (hk : k ≤ nm.length) : b.length ≤ nm.length := by
 induction k generalizing b with
 | zero => rw [show b = [] from h]; simp
 | succ k ih =>
  obtain ⟨b0, c, h1, h2, rfl⟩ := h;unfold better
  split
  ·exact h2.len ho (by omega)
  ·exact ih h1 (by omega)
theorem find_first {α : Type} {l : List α} {P : α → Bool} {i : Nat} {a : α} (h : l[i]? = some a) (ha : P a = true) (hb : ∀ (j : Nat) (b : α), j < i → l[j]? = some b → P b = false) : l.find? P = some a := by
 induction l generalizing i with
 | nil => cases h
 | cons x l ih =>
  cases i with
  | zero => simp only [List.getElem?_cons_zero, Option.some.injEq] at h; subst h; simp [ha]
  | succ i =>
   have hx := hb 0 x (by omega) rfl;rw [List.find?_cons, hx];exact ih (i := i) (by simpa using h) (fun j b hj hl => hb (j + 1) b (by omega) (by simpa using hl))
theorem find_none {α : Type} {l : List α} {P : α → Bool} (hb : ∀ (j : Nat) (b : α), l[j]? = some b → P b = false) : l.find? P = none := by
 rw [List.find?_eq_none];intro x hx;obtain ⟨j, hj, rfl⟩ := List.getElem_of_mem hx;rw [hb j _ (List.getElem?_eq_getElem hj)];simp
theorem findN_take {fs : List Ft} {i : Nat} {s : ByteArray} : findN (fs.take i) s = none ↔ ((fs.take i).any fun g => sEq g.nm s) = false := by
 unfold findN;rw [List.findIdx?_eq_none_iff, List.any_eq_false];constructor
 ·intro h x hx; simp [h x hx]
 ·intro h x hx; simpa using h x hx
theorem getD_at {fs : List Ft} {i : Nat} {f : Ft} (h : fs[i]? = some f) : fs.getD i ft0 = f := by rw [List.getD_eq_getElem?_getD, h]; rfl
theorem twi_some {fs : List Ft} {i : Nat} {f : Ft} (h : fs[i]? = some f) (h1 : findN (fs.take i) f.nm ≠ none) (h2 : ∀ (j : Nat) (g : Ft), j < i → fs[j]? = some g → findN (fs.take j) g.nm = none) : twi fs = some f := by
 unfold twi
 have e : (List.range fs.length).find? (fun i => ((fs.take i).any fun g => sEq g.nm (fs.getD i ft0).nm)) = some i := by
  rw [List.find?_range_eq_some];refine ⟨?_, by simpa using (List.getElem?_eq_some_iff.1 h).1, fun j hj => ?_⟩
  ·rw [getD_at h]
   cases e : (fs.take i).any fun g => sEq g.nm f.nm
   ·exact (h1 (findN_take.2 e)).elim
   ·rfl
  ·have hl : j < fs.length := Nat.lt_trans hj (List.getElem?_eq_some_iff.1 h).1
   have hg : fs[j]? = some fs[j] := List.getElem?_eq_getElem hl;rw [getD_at hg, findN_take.1 (h2 j _ hj hg)];rfl
 rw [e, Option.map_some, getD_at h]
theorem twi_none {fs : List Ft} (h2 : ∀ (j : Nat) (g : Ft), fs[j]? = some g → findN (fs.take j) g.nm = none) : twi fs = none := by
 unfold twi;rw [Option.map_eq_none_iff, List.find?_eq_none];intro j hj;have hl : j < fs.length := by simpa using hj
 have hg : fs[j]? = some fs[j] := List.getElem?_eq_getElem hl;rw [getD_at hg, findN_take.1 (h2 j _ hg)];simp
theorem twi_none' {fs : List Ft} (h : twi fs = none) (j : Nat) (g : Ft) (hg : fs[j]? = some g) : findN (fs.take j) g.nm = none := by
 unfold twi at h;rw [Option.map_eq_none_iff, List.find?_eq_none] at h;have := h j (by simpa using (List.getElem?_eq_some_iff.1 hg).1);rw [getD_at hg] at this;exact findN_take.2 (by simpa using this)
theorem find_not {α : Type} {l : List α} {P : α → Bool} (h : l.find? P = none) {a : α} (ha : a ∈ l) : P a = false := by
 rw [List.find?_eq_none] at h
 simpa using h a ha
theorem ftr_one {f : Ft} (h : ftr f = true) : emp f.on = true ∨ emp f.ov = true := by
 unfold ftr at h
 cases h1 : emp f.on <;> cases h2 : emp f.ov <;> simp [h1, h2] at h ⊢
theorem chk_long {fs : List Ft} (h : 4096 < fs.length) : Chk fs 2 [] := by unfold Chk; rw [if_pos h]; exact ⟨rfl, rfl⟩
theorem chk_many {fs : List Ft} (h : ¬ 4096 < fs.length) (h1 : 30 < fs.length) : Chk fs 10 [] := by unfold Chk; rw [if_neg h, if_pos h1]; exact ⟨rfl, rfl⟩
theorem chk_bad {fs : List Ft} (h : ¬ 30 < fs.length) {f : Ft} (hf : fs.find? (fun f => !ftr f) = some f) : Chk fs 1 [f.nm] := by unfold Chk; rw [if_neg (by omega), if_neg h, hf]; exact ⟨rfl, rfl⟩
theorem chk_twice {fs : List Ft} (h : ¬ 30 < fs.length) (hf : fs.find? (fun f => !ftr f) = none) {f : Ft} (ht : twi fs = some f) : Chk fs 7 [f.nm] := by unfold Chk; rw [if_neg (by omega), if_neg h, hf]; simp only; rw [ht]; simp only; exact ⟨trivial, trivial⟩
theorem chk_name {fs : List Ft} (h : ¬ 30 < fs.length) (hf : fs.find? (fun f => !ftr f) = none) (ht : twi fs = none) {f : Ft} (hw : fs.find? (fun f => (wrg fs f).isSome) = some f) : Chk fs 6 [f.nm, (wrg fs f).getD ⟨#[]⟩] := by unfold Chk; rw [if_neg (by omega), if_neg h, hf]; simp only; rw [ht]; simp only; rw [hw]; simp only; exact ⟨trivial, trivial⟩
theorem chk_end {fs : List Ft} (h : ¬ 30 < fs.length) (hf : fs.find? (fun f => !ftr f) = none) (ht : twi fs = none) (hw : fs.find? (fun f => (wrg fs f).isSome) = none) {b : List Nat} (hb : Bst (sc (nms fs)) fs.length b) : Chk fs (if b = [] then 0 else 9) (b.map (fun i => (fs.getD i ft0).nm)) := by unfold Chk; rw [if_neg (by omega), if_neg h, hf]; simp only; rw [ht]; simp only; rw [hw]; exact ⟨b, hb, rfl, rfl⟩
theorem wrg_emp {fs : List Ft} {f : Ft} {s : ByteArray} (h : wrg fs f = some s) : emp s = false := by
 unfold wrg at h
 split at h
 ·rename_i e
  cases h
  exact e.1
 ·split at h
  ·rename_i e
   split at h
   ·cases h; exact e
   ·split at h
    ·cases h; exact e
    ·cases h
  ·cases h
theorem wrgS_iff {fs : List Ft} {f : Ft} : emp (wrgS fs f) = true ↔ wrg fs f = none := by
 unfold wrgS
 cases h : wrg fs f with
 | none => simp [emp_iff]
 | some s => simp [wrg_emp h]
open Go.ChangeShapes Go.WideShapes Go.ChangeAt Go.RowKit Go.Maps Go.WideMaps
def keyL (s : ByteArray) : Lit := .string s.data.toList
theorem keyL_inj {s t : ByteArray} (h : keyL s = keyL t) : s = t := by
 unfold keyL at h
 cases s; cases t
 simp only [Lit.string.injEq] at h;rw [Array.toList_inj.1 h]
theorem keyL_key (s : ByteArray) : WideAt.IsKeyLit (keyL s) := by
 unfold keyL;exact trivial
def Dn (fs : List Ft) : Nat → DataW Unit
 | 0 => .map []
 | k + 1 => (Dn fs k).put (keyL (fs.getD k ft0).nm) (.lit (.int .i64 (k : Int)))
theorem Dn_tidy (fs : List Ft) : ∀ k, Tidy (Dn fs k)
 | 0 => tidy_empty
 | k + 1 => (Dn_tidy fs k).put (keyL_key _) _
theorem findN_succ {fs : List Ft} {k : Nat} {f : Ft} (h : fs[k]? = some f) (s : ByteArray) : findN (fs.take (k + 1)) s = match findN (fs.take k) s with | some i => some i | none => if sEq f.nm s then some k else none := by
 have hl : (fs.take k).length = k := by rw [List.length_take]; have := (List.getElem?_eq_some_iff.1 h).1; omega
 unfold findN;rw [List.take_add_one, h, Option.toList_some, List.findIdx?_append]
 cases e : (fs.take k).findIdx? fun f => sEq f.nm s with
 | some i => rfl
 | none =>
  simp only [Option.none_or, List.findIdx?_cons, hl]
  cases e2 : sEq f.nm s <;> simp
theorem Dn_has (fs : List Ft) (s : ByteArray) : ∀ k, k ≤ fs.length → has (Dn fs k) (keyL s) = (findN (fs.take k) s).isSome := by
 intro k
 induction k with
 | zero => intro _; simp [Dn, has, findN]
 | succ k ih =>
  intro hk;have hx : fs[k]? = some fs[k] := List.getElem?_eq_getElem (by omega);rw [findN_succ hx]
  show has ((Dn fs k).put (keyL (fs.getD k ft0).nm) _) (keyL s) = _
  rw [getD_at hx]
  by_cases e : fs[k].nm = s
  ·subst e
   rw [has_put_same (Dn_tidy fs k).isMap (keyL_key _), sEq_refl]
   cases findN (fs.take k) fs[k].nm <;> rfl
  ·rw [has_put_other (fun h => e (keyL_inj h).symm), ih (by omega), sEq_ne e]
   cases findN (fs.take k) s <;> rfl
theorem Dn_at (fs : List Ft) (s : ByteArray) (zd : DataW Unit) : ∀ k, k ≤ fs.length → (∀ (j : Nat) (g : Ft), j < k → fs[j]? = some g → findN (fs.take j) g.nm = none) → (Dn fs k).atKey (keyL s) zd = match findN (fs.take k) s with | some i => .lit (.int .i64 (i : Int)) | none => zd := by
 intro k
 induction k with
 | zero => intro _ _; simp [Dn, DataW.atKey, findN]
 | succ k ih =>
  intro hk hu;have hx : fs[k]? = some fs[k] := List.getElem?_eq_getElem (by omega);have hno := hu k _ (by omega) hx;rw [findN_succ hx]
  show ((Dn fs k).put (keyL (fs.getD k ft0).nm) _).atKey (keyL s) zd = _
  rw [getD_at hx]
  by_cases e : fs[k].nm = s
  ·subst e
   rw [hno, sEq_refl];exact atKey_put_same (Dn_tidy fs k).isMap (keyL_key _) _ _
  ·rw [sEq_ne e, atKey_put_other (fun h => e (keyL_inj h).symm), ih (by omega) (fun j g hj hg => hu j g (by omega) hg)]
   cases findN (fs.take k) s <;> rfl
def MapOf (w : World) (b : Nat) (fs : List Ft) (k : Nat) : Prop := w.ownsMap Tryz.prog 9 (plainElem (H := Unit) Tryz.prog 3) b k (Dn fs k)
theorem MapOf.blk {w w' : World} {b k : Nat} {fs : List Ft} (h : MapOf w b fs k) (hb : w'.heap[b]? = w.heap[b]?) : MapOf w' b fs k := by
 obtain ⟨es, clock, hb', r⟩ := h;exact ⟨es, clock, hb.trans hb', r⟩
theorem MapOf.lt {w : World} {b k : Nat} {fs : List Ft} (h : MapOf w b fs k) : b < w.heap.size := by
 obtain ⟨es, clock, hb', r⟩ := h;exact (Array.getElem?_eq_some_iff.1 hb').1
theorem MapOf.bel {w w' : World} {b k : Nat} {fs : List Ft} (h : MapOf w b fs k) (hb : Below w.heap.size w w') : MapOf w' b fs k := h.blk (hb.block b h.lt)
theorem lawK : Keyed Tryz.prog 9 := string_keyed Tryz.underlying9
theorem zero3 (w : World) : (zeroValue 3).run Tryz.prog w = .ok (.int .i64 0) w := by simp [go_sem]
def findZ (fs : List Ft) (s : ByteArray) : Int := match findN fs s with | some i => (i : Int) | none => 0
theorem MapOf.look {w : World} {b k : Nat} {fs : List Ft} (h : MapOf w b fs k) (hk : k ≤ fs.length) (hu : ∀ (j : Nat) (g : Ft), j < k → fs[j]? = some g → findN (fs.take j) g.nm = none) (s : ByteArray) (hs : s.size ≤ maxLen) :
  (Instr.lookup 82 (.map (some b)) (.string s) true).run Tryz.prog w = .ok (.tuple #[.int .i64 (findZ (fs.take k) s), .bool (findN (fs.take k) s).isSome]) w := by
 obtain ⟨v, ps, hrun, hv⟩ := World.ownsMap.look_ok (t := 82) (e := 3) h lawK Tryz.underlying82 (zero3 w) (zd := .lit (.int .i64 0)) (zp := []) (plainElem_int Tryz.underlying3 (by decide)) (key := .string s) (kl := keyL s) (keyOf_string_mk Tryz.underlying9 hs);obtain ⟨c, rfl, hc, _⟩ := plainElem_int_inv Tryz.underlying3 hv;have hc' := congrArg Prod.fst hc;simp only at hc';rw [Dn_at fs s _ k hk hu] at hc';rw [hrun, Dn_has fs s k hk]
 have : c = findZ (fs.take k) s := by
  unfold findZ
  cases e : findN (fs.take k) s with
  | none => rw [e] at hc'; simp only [DataW.lit.injEq, Lit.int.injEq, true_and] at hc'; exact hc'.symm
  | some i => rw [e] at hc'; simp only [DataW.lit.injEq, Lit.int.injEq, true_and] at hc'; exact hc'.symm
 rw [this]
end Go.Proofs.YtkiplmabjeadgaaGreat
