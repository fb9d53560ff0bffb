/- The program's pieces of the question whether a feature is right: where it stands, its step. -/
import Derived.Test.YtkiplmabjeadgaaGreatFdMQ
import Derived.Deep.LoopGhost
import Derived.Test.YtkiplmabjeadgaaGreatStPQ
import Derived.Lib.SliceRun
import Derived.Test.YtkiplmabjeadgaaGreatFoMathQ
import Derived.Test.YtkiplmabjeadgaaGreatWordsQ
namespace Go.Proofs.YtkiplmabjeadgaaGreat
set_option maxRecDepth 100000
set_option maxHeartbeats 16000000
open Go.ChangeShapes Go.WideShapes Go.ChangeAt Go.RowKit
set_option linter.unusedVariables false
set_option linter.unusedSimpArgs false
theorem clo_any (y c g n : Nat) (o : List Nat) (w : World) (hy : y < n) (hc : w.cell? ⟨c, 0, none⟩ = some (.slice (some ⟨g, 0, none⟩) n n)) (hv : vb w g 4 (bl n o)) :
  Calls Tryz.prog 212 #[.int .i64 (y : Int), .pointer (some ⟨c, 0, none⟩)] w fun e w' => e = .returned (.bool (!o.contains y)) ∧ w' = w := by
 have d := hv.cell (bl_at hy);have y1 : (y : Int) < (n : Int) := by omega
 have y0 : (0 : Int) ≤ (y : Int) := Int.natCast_nonneg _;clear hv hy;generalize o.contains y = b at *;go_enter Tryz.func212, Tryz.ntmps212;go_wp2;go_ret;exact ⟨rfl, rfl⟩
theorem idxf_any (x : Option Addr) (l : List Nat) (cx c g n : Nat) (o : List Nat) (w : World) (hl : l.length ≤ 4096) (hx : l ≠ [] → ∃ b q, x = some ⟨b, q, none⟩ ∧ ∀ (k y : Nat), l[k]? = some y → w.cell? ⟨b, q + k, none⟩ = some (.int .i64 (y : Int))) (hlt : ∀ y ∈ l, y < n)
  (hc : w.cell? ⟨c, 0, none⟩ = some (.slice (some ⟨g, 0, none⟩) n n)) (hv : vb w g 4 (bl n o)) :
  Calls Tryz.prog 227 #[.slice x l.length cx, .func (.func 212) #[] #[.pointer (some ⟨c, 0, none⟩)]] w fun e w' => (∃ r : Int, e = .returned (.int .i64 r) ∧ (decide (0 ≤ r)) = (l.any fun y => !o.contains y)) ∧ w' = w := by
 have HX := hide hx;have HT := hide hlt;have HCL := hide (fun y (hy : y < n) => clo_any y c g n o w hy hc hv);clear hx hlt hc hv;go_enter Tryz.func227, Tryz.ntmps227;go_wp2
 go_loopw [8] (fun s W => ∃ i : Nat, s = .int .i64 (i : Int) ∧ i ≤ l.length ∧ (∀ (j y : Nat), j < i → l[j]? = some y → o.contains y = true) ∧ W = w) (fun s _ => l.length - (intOf s).toNat)
 case atStart => exact ⟨0, rfl, Nat.zero_le _, fun j y hj => by omega, rfl⟩
 case round =>
  obtain ⟨i, rfl, hil, hall, hw⟩ := hrel;subst hw;have HA := hide hall;clear hall
  by_cases h : i < l.length
  ·have i1 : (i : Int) < (l.length : Int) := by omega
   have i0 : (0 : Int) ≤ (i : Int) := Int.natCast_nonneg _;have iz : decide ((i : Int) < (l.length : Int)) = true := dt i1;have hy : l[i]? = some l[i] := List.getElem?_eq_getElem h;obtain ⟨b, q, rfl, hcell⟩ := zu HX (by intro e; rw [e] at h; simp at h);have hyn := zu HT _ (List.getElem_mem h);have hm : l[i] ∈ l := List.getElem_mem h;generalize l[i] = y at *;have k1 := hcell i y hy;have HY := hide hy;have HM := hide hm;have HC := hide (zu HCL y hyn);clear hcell hy hm;generalize hby : o.contains y = b2 at *
   have HBY := hide hby
   clear hby
   go_wp2_with fail;refine (zu HC).mono ?_;rintro e W1 ⟨rfl, hw1⟩;subst hw1
   cases b2
   ·go_wp2_with fail
    go_ret;refine ⟨⟨(i : Int), rfl, ?_⟩, by first | rfl | trivial⟩;rw [dt i0];symm;rw [List.any_eq_true];exact ⟨y, zu HM, by rw [zu HBY]; rfl⟩
   ·go_wp2_with fail
    go_roundw
    case rel =>
     refine ⟨i + 1, by simp, h, ?_, by first | rfl | trivial⟩;intro j z hj hz
     by_cases e : j = i
     ·subst e
      rw [zu HY] at hz
      cases hz
      exact zu HBY
     ·exact zu HA j z (by omega) hz
    case measure => simp only [intOf]; omega
  ·have i1 : ¬ (i : Int) < (l.length : Int) := by omega
   have iz : decide ((i : Int) < (l.length : Int)) = false := df i1;go_wp2_with fail;go_ret;refine ⟨⟨-1, rfl, ?_⟩, by first | rfl | trivial⟩;rw [df (by omega)];symm;rw [List.any_eq_false];intro y hy;obtain ⟨j, hj, rfl⟩ := List.getElem_of_mem hy;have hc2 := zu HA j _ (by omega) (List.getElem?_eq_getElem hj)
   first
   | (rw [hc2]; simp; done)
   | (simp only [List.contains_eq_mem] at hc2; rw [hc2]; simp)
theorem contf_any (x : Option Addr) (l : List Nat) (cx c g n : Nat) (o : List Nat) (w : World) (hl : l.length ≤ 4096) (hx : l ≠ [] → ∃ b q, x = some ⟨b, q, none⟩ ∧ ∀ (k y : Nat), l[k]? = some y → w.cell? ⟨b, q + k, none⟩ = some (.int .i64 (y : Int))) (hlt : ∀ y ∈ l, y < n)
  (hc : w.cell? ⟨c, 0, none⟩ = some (.slice (some ⟨g, 0, none⟩) n n)) (hv : vb w g 4 (bl n o)) :
  Calls Tryz.prog 211 #[.slice x l.length cx, .func (.func 212) #[] #[.pointer (some ⟨c, 0, none⟩)]] w fun e w' => e = .returned (.bool (l.any fun y => !o.contains y)) ∧ w' = w := by
 have H := hide (idxf_any x l cx c g n o w hl hx hlt hc hv);clear hx hlt hc hv;go_enter Tryz.func211, Tryz.ntmps211;go_wp2_with fail;refine (zu H).mono ?_;rintro e W1 ⟨⟨r, rfl, hr⟩, hw1⟩;subst hw1;have HR := hide hr;clear hr;generalize hz : decide (0 ≤ r) = z at *
 cases z
 ·have hz' : ¬ 0 ≤ r := of_decide_eq_false hz
  go_wp2_with fail;go_ret;exact ⟨ret_bool (zu HR), rfl⟩
 ·have hz' : 0 ≤ r := of_decide_eq_true hz
  go_wp2_with fail;go_ret;exact ⟨ret_bool (zu HR), rfl⟩
def ffI (nm : List (List Nat)) (o : List Nat) : Int := match ff nm o with | some i => (i : Int) | none => -1
theorem all_any (l : List Nat) (o : List Nat) : (l.all fun p => o.contains p) = !(l.any fun y => !o.contains y) := by
 induction l with
 | nil => rfl
 | cons a l ih => simp only [List.all_cons, List.any_cons, ih]; cases o.contains a <;> simp
theorem ffP_any (u : Option Addr) (n cu g : Nat) (nm : List (List Nat)) (o : List Nat) (w : World) (hl : nm.length = n) (hn : n ≤ 4096) (hu : NmAt w u nm) (hlt : ∀ l ∈ nm, l.length ≤ 4096 ∧ ∀ x ∈ l, x < n) (hv : vb w g 4 (bl n o)) :
  Calls Tryz.prog 175 #[.slice u n cu, .slice (some ⟨g, 0, none⟩) n n] w fun e w' => e = .returned (.int .i64 (ffI nm o)) ∧ Below w.heap.size w w' := by
 have HU := hide (hu.bel (ba (bfl w.heap.size w) (.cells #[.slice (some ⟨g, 0, none⟩) n n] 95)));have HL := hide hl;have HT := hide hlt;have HV := hide (hv.bel (ba (bfl w.heap.size w) (.cells #[.slice (some ⟨g, 0, none⟩) n n] 95)));have HB := hide (ba (bfl w.heap.size w) (.cells #[.slice (some ⟨g, 0, none⟩) n n] 95));have hc : (w.alloc (.cells #[.slice (some ⟨g, 0, none⟩) n n] 95)).cell? ⟨w.heap.size, 0, none⟩ = some (.slice (some ⟨g, 0, none⟩) n n) := by simp [go_sem]
 clear hu hl hlt hv;go_enter Tryz.func175, Tryz.ntmps175;go_wp2_with fail;generalize w.alloc (.cells #[.slice (some ⟨g, 0, none⟩) n n] 95) = W1 at *
 go_loopw [10] (fun s W => ∃ i : Nat, s = .int .i64 (i : Int) ∧ i ≤ n ∧ (∀ j, j < i → rdy nm o j = false) ∧ W = W1) (fun s _ => n - (intOf s).toNat)
 case atStart => exact ⟨0, rfl, Nat.zero_le _, fun j hj => by omega, rfl⟩
 case round =>
  obtain ⟨i, rfl, hil, hall, hw⟩ := hrel;subst hw;rename World => W1
  have HA := hide hall;clear hall
  by_cases h : i < n
  ·have i1 : (i : Int) < (n : Int) := by omega
   have i0 : (0 : Int) ≤ (i : Int) := Int.natCast_nonneg _;have iz : decide ((i : Int) < (n : Int)) = true := dt i1;obtain ⟨l, hx⟩ := get_some (zu HL) h;obtain ⟨gn, on, rfl, xv, xc, hcx, hin⟩ := (zu HU).at hx;have d0 := (zu HV).cell (bl_at h);have hlt := zu HT l (List.mem_of_getElem? hx);have HC := hide (contf_any xv l xc w.heap.size g n o W1 hlt.1 hin hlt.2 hc (zu HV))
   have hrd : rdy nm o i = (!o.contains i && !(l.any fun y => !o.contains y)) := by
    unfold rdy;rw [List.getD_eq_getElem?_getD, hx, Option.getD_some, all_any]
   have HRD := hide hrd;clear hin hx hrd hlt;generalize o.contains i = b0 at *;generalize (l.any fun y => !o.contains y) = b1 at *;go_wp2_with fail;refine (zu HC).mono ?_;rintro e W2 ⟨rfl, hw1⟩;subst hw1
   cases b0
   ·cases b1
    ·go_wp2_with fail
     go_ret;refine ⟨ret_int ?_, zu HB⟩;unfold ffI;rw [ff_of (by rw [zu HL]; exact h) (zu HRD) (zu HA)]
    ·go_wp2_with fail
     go_roundw
     case rel =>
      refine ⟨i + 1, by simp, h, ?_, by first | rfl | trivial⟩;intro j hj
      by_cases e : j = i
      ·rw [e]; exact zu HRD
      ·exact zu HA j (by omega)
     case measure => simp only [intOf]; omega
   ·go_wp2_with fail
    go_roundw
    case rel =>
     refine ⟨i + 1, by simp, h, ?_, by first | rfl | trivial⟩;intro j hj
     by_cases e : j = i
     ·rw [e]; exact zu HRD
     ·exact zu HA j (by omega)
    case measure => simp only [intOf]; omega
  ·have i1 : ¬ (i : Int) < (n : Int) := by omega
   have iz : decide ((i : Int) < (n : Int)) = false := df i1;go_wp2_with fail;go_ret;refine ⟨ret_int ?_, zu HB⟩;unfold ffI;rw [ff_no (fun j hj => zu HA j (by rw [zu HL] at hj; omega))]
theorem workP_any (u : Option Addr) (n cu : Nat) (nm : List (List Nat)) (w : World) (hl : nm.length = n) (hn : n ≤ 4096) (hu : NmAt w u nm) (hlt : ∀ l ∈ nm, l.length ≤ 4096 ∧ ∀ x ∈ l, x < n) :
  Calls Tryz.prog 149 #[.slice u n cu] w fun e w' => ∃ v, e = .returned v ∧ Row w' w.heap.size 3 1 v (ord nm).length (nats (ord nm)) ∧ Below w.heap.size w w' := by
 obtain ⟨i0, hi, hz0, hz1, hz2⟩ := info_parts info3;have hmk := fun W => make_vals (P := Tryz.prog) 95 4 1 n (.bool false) rfl Tryz.underlying95 info4 (by omega) (by omega) W
 have HU := hide hu;have HL := hide hl;have HT := hide hlt;clear hu hl hlt;rw [← bl_nil] at hmk;go_enter Tryz.func149, Tryz.ntmps149;go_wp2_with fail;have HV0 := hide (vb_new w 4 (bl n []) _ rfl);have HB0 := hide (ba (bfl w.heap.size w) (.cells (bl n []).toArray 4));clear hmk
 go_loopg [3] (n + 1) (fun k v W => ∃ m : Nat, m ≤ n ∧ k = n + 1 - m ∧ (wo nm m).length = m ∧ Row W w.heap.size 3 1 v m (nats (wo nm m)) ∧ v.ownBlock ≠ some w.heap.size ∧ vb W w.heap.size 4 (bl n (wo nm m)) ∧ Below w.heap.size w W)
 case atStart => exact ⟨0, Nat.zero_le _, rfl, rfl, own_nil _ _ _ _, by simp [Value.ownBlock], zu HV0, zu HB0⟩
 case round =>
  obtain ⟨m, hm, hgk, hml, hrow, hob, hvb, hw⟩ := hrel;rename World => W1
  obtain ⟨uv, cap, rfl, _⟩ := hrow.form;have HR := hide hrow;have HV := hide hvb;have HW := hide hw;have HOB := hide hob;have HML := hide hml;have HGK := hide hgk;have HF := hide (ffP_any u n cu w.heap.size nm (wo nm m) W1 (zu HL) hn ((zu HU).bel hw) (zu HT) hvb);clear hrow hvb hw hob hml hgk HV0 HB0
  cases hq : ff nm (wo nm m) with
  | none =>
   have hfi : ffI nm (wo nm m) = -1 := by unfold ffI; rw [hq]
   rw [hfi] at HF;clear hfi;have hor := ord_of hq (by rw [zu HL]; exact hm);have HOR := hide hor;clear hor hq;go_wp2_with fail;refine (zu HF).mono ?_;rintro e W2 ⟨rfl, hb⟩;have HB2 := hide (bc (zu HW) hb);have HR2 := hide ((zu HR).below hb);clear hb;go_wp2_with fail;go_ret;refine ⟨_, rfl, ?_, zu HB2⟩;rw [zu HOR, zu HML];exact zu HR2
  | some q =>
   have hfi : ffI nm (wo nm m) = (q : Int) := by unfold ffI; rw [hq]
   rw [hfi] at HF;clear hfi;have hqn : q < n := by have := (ff_some hq).1; rw [zu HL] at this; exact this
   have hmn : m < n := by have := (wo_count nm m (by rw [hq]; simp)).2; rw [zu HL] at this; exact this
   have hws := wo_some hq;have HWS := hide hws;clear hws hq;generalize wo nm m = o at *;have q1 : (q : Int) < (n : Int) := by omega
   have q0 : (0 : Int) ≤ (q : Int) := Int.natCast_nonneg _;have qn : ¬ (q : Int) < 0 := by omega
   have qz : decide ((q : Int) < 0) = false := df qn;go_wp2_with fail;refine (zu HF).mono ?_;rintro e W2 ⟨rfl, hb⟩;have hvb := (zu HV).bel hb;have fz : ∀ z, W2.frozen? ⟨w.heap.size, z, none⟩ = false := hvb.frozen;have HV2 := hide (hvb.set q (.bool true));rw [bl_set hqn] at HV2;have hrow := (zu HR).below hb;have HR2 := hide (hrow.kept' (w' := W2.setCell ⟨w.heap.size, q, none⟩ (.bool true)) (fun g hg => by have h3 : g ≠ w.heap.size := (by intro e; subst e; exact zu HOB hg); exact Below.heap_setCell _ _ _ _ h3))
   have HW2 := hide (Below.setCell (bc (zu HW) hb) (p := ⟨w.heap.size, q, none⟩) (Nat.le_refl _) (.bool true));have HSZ := hide (show (W2.setCell ⟨w.heap.size, q, none⟩ (.bool true)).heap.size = W2.heap.size by simp [World.setCell]);have dq := hvb.cell (bl_at (o := o) hqn);clear hb hrow hvb
   go_wp2_with (at_builtin; refine zu ?_)
   refine hide ?_;generalize W2.setCell ⟨w.heap.size, q, none⟩ (.bool true) = W3 at *;clear dq fz;refine wpList_append_new _ rfl _ _ 94 rfl w.heap.size 3 i0 _ 1 8 Tryz.underlying94 hi hz0 hz1 hz2 rfl (by decide) _ _ _ rfl ((zu HR2).alloc _) _ 1 1 ([(q : Int)].map (Value.int .i64)) rfl rfl (by first | exact news_cells _ _ (zu HSZ).symm | exact news_cells _ _ rfl) ints_one (by unfold maxLen; omega) (by omega) (Nat.le_trans (zu HW2).size (by simp)) ?_;intro v' w1 hown' hgrow _ hnew
   have R := hide (own_more (wr := W3) (news := [(q : Int)]) ((bfl w.heap.size W3).alloc (zu HW2).size _) (Nat.le_trans (zu HW2).size (by simp)) (zu HR2) hown' hgrow)
   have hob2 : v'.ownBlock ≠ some w.heap.size := by
    intro e
    rcases hnew _ e with h1 | h1
    ·exact zu HOB h1
    ·have := (zu HV2).lt
     simp at h1;omega
   have HV3 := hide ((zu HV2).bel ((bfl _ _).alloc (Nat.le_refl _) (.cells #[.int .i64 (q : Int)] 3)));have HV4 : Hid (vb w1 w.heap.size 4 (bl n (o ++ [q]))) := hide ((hgrow.block _ (by have := (zu HV2).lt; simp; omega) (by intro e; exact zu HOB e.symm)).trans (zu HV3));clear hown' hgrow hnew;go_wp2_with fail
   go_roundg (n + 1 - (m + 1))
   case measure => have := zu HGK; omega
   case rel =>
    refine ⟨m + 1, by omega, rfl, ?_, ?_, hob2, ?_, (zu HW2).trans ((zu R).2)⟩
    ·rw [zu HWS]
     simp [zu HML]
    ·rw [zu HWS]
     have := (zu R).1
     simpa [nats] using this
    ·rw [zu HWS]
     exact zu HV4
theorem StAns.at {s : Nat → Option Nat} {n goal m L : Nat} {st : List Nat} (h : StAns s n goal st) (f : First s m goal L) (hm : m < n) : st[m]? = some L := by
 obtain ⟨x, hx⟩ := get_some h.1 hm
 rcases Nat.eq_zero_or_pos x with e | e
 ·subst e
  exact (h.2.2 m hx L f).elim
 ·rw [hx, (h.2.1 m x hx e).uniq f]
theorem path_last (s : Nat → Option Nat) (t i : Nat) : (path s (t + 1) i)[t]? = some ((it s t i).getD 0) := by
 show (path s t i ++ _)[t]? = _
 rw [List.getElem?_append_right (by rw [path_len]; omega), path_len, Nat.sub_self];rfl
theorem circP_any (u : Option Addr) (n cu gs i0 L : Nat) (nm : List (List Nat)) (st : List Nat) (w : World) (hl : nm.length = n) (hn : n ≤ 4000) (hi0 : i0 < n) (hu : NmAt w u nm) (ho : Oneful nm) (hst : StAns (sc nm) n i0 st) (hv : vb w gs 3 (natV st)) (hL : st[i0]? = some L) (hLp : 0 < L) :
  Calls Tryz.prog 177 #[.slice u n cu, .slice (some ⟨gs, 0, none⟩) n n, .int .i64 (i0 : Int)] w fun e w' => ∃ v, e = .returned v ∧ w'.ownsRow w.heap.size 3 1 v L (natV (path (sc nm) L i0)) ∧ Below w.heap.size w w' := by
 obtain ⟨iI, hi, hz0, hz1, hz2⟩ := info_parts info3;have hF := hst.2.1 i0 L hL hLp;have hLn := hF.le ho;rw [hl] at hLn;have HU := hide hu;have HN := hide hl;have HO := hide ho;have HST := hide hst;have HF := hide hF;have HVS := hide (hv.bel (ba (bfl w.heap.size w) (.cells #[.int .i64 (i0 : Int)] 3)));have HV := hide hv;have k0 := hv.cell (natV_at hL);have k0' := ka (o := .cells #[.int .i64 (i0 : Int)] 3) k0;have i1 : (i0 : Int) < (n : Int) := by omega
 have iz : (0 : Int) ≤ (i0 : Int) := Int.natCast_nonneg _;have HR0 := hide ((vb_new w 3 (natV [i0]) _ rfl).owns (B := w.heap.size) (n := 1) (Nat.le_refl _) rfl (by decide));have HB0 := hide (ba (bfl w.heap.size w) (.cells #[.int .i64 (i0 : Int)] 3));clear hu hl ho hst hF hv hL;go_enter Tryz.func177, Tryz.ntmps177;go_wp2_with fail;clear k0 k0'
 go_loopw [7, 8] (fun v s W => ∃ t : Nat, 0 < t ∧ t ≤ L ∧ s = .int .i64 ((L : Int) - (t : Int)) ∧ W.ownsRow w.heap.size 3 1 v t (natV (path (sc nm) t i0)) ∧ Below w.heap.size w W) (fun _ s _ => (intOf s).toNat)
 case atStart => exact ⟨1, by omega, hLp, by simp, zu HR0, zu HB0⟩
 case round =>
  obtain ⟨t, ht0, htL, rfl, hown, hw⟩ := hrel;rename World => W1
  obtain ⟨uv, cv, rfl, _, _, hfv⟩ := own_form hown;have HOW := hide hown;have HW := hide hw;clear hown hw HR0 HB0
  by_cases h : t < L
  ·have t1 : (0 : Int) < (L : Int) - (t : Int) := by omega
   have tz : decide ((0 : Int) < (L : Int) - (t : Int)) = true := dt t1;obtain ⟨gv, rfl, hgv1, hgv2, hcr⟩ := hfv (by omega);obtain ⟨p, hp, fp⟩ := (zu HF).rest (show t - 1 < L by omega);obtain ⟨r, hr, fr⟩ := (zu HF).rest h
   have hpr : sc nm p = some r := by
    rw [show t = t - 1 + 1 by omega, it, hp] at hr;exact hr
   obtain ⟨hpn, hrn⟩ := sc_lt (zu HO) hpr;rw [zu HN] at hpn hrn
   have hpl : (path (sc nm) t i0)[t - 1]? = some p := by
    have := path_last (sc nm) (t - 1) i0;rw [show t - 1 + 1 = t by omega, hp] at this;exact this
   have k1 := hcr (t - 1) _ (natV_at hpl);have e1 : ((t : Int) - 1) = ((t - 1 : Nat) : Int) := by omega
   have e2 : ((t - 1 : Nat) : Int) < (t : Int) := by omega
   have e3 : (0 : Int) ≤ ((t - 1 : Nat) : Int) := Int.natCast_nonneg _;have p1 : (p : Int) < (n : Int) := by omega
   have p0 : (0 : Int) ≤ (p : Int) := Int.natCast_nonneg _;have r1 : (r : Int) < (n : Int) := by omega
   have r0 : (0 : Int) ≤ (r : Int) := Int.natCast_nonneg _
   have hnp : nm[p]? = some [r] := by
    rcases (zu HO).at (by rw [zu HN]; exact hpn) with ⟨_, e⟩ | ⟨q, _, e, e'⟩
    ·rw [hpr] at e; cases e
    ·rw [hpr] at e'; cases e'; exact e
   obtain ⟨gn, on, rfl, xv, xc, hcx, hin⟩ := ((zu HU).bel (zu HW)).at hnp;obtain ⟨bx, qx, rfl, hcell⟩ := hin (by simp);have k2 := hcell 0 r rfl
   have hpth : path (sc nm) (t + 1) i0 = path (sc nm) t i0 ++ [r] := by
    show path (sc nm) t i0 ++ [(it (sc nm) t i0).getD 0] = _
    rw [hr]; rfl
   have HPT := hide hpth;have k3 := ((zu HV).below (zu HW) (zu HV).lt).cell (natV_at ((zu HST).at fr hrn));have e4 : ((L - t : Nat) : Int) = (L : Int) - (t : Int) := by omega
   rw [e4] at k3;clear hcr hfv hp hr hpr hpl hnp hin hcell hpth fp fr e4;simp only [List.length_singleton, Nat.add_zero] at hcx k2;generalize hq : t - 1 = tm at *;have HQ := hide hq;clear hq;have hww : IntKind.i64.wrap ((L : Int) - (t : Int) - 1) = (L : Int) - ((t + 1 : Nat) : Int) := by rw [wrap_i (by omega) (by omega)]; omega
   go_wp2_with fail;have HC := hide hcx;have K2 := hide k2;have K3 := hide k3;clear k1 hcx k2 k3 e1 e2 e3
   go_loopw [7, 32] (fun v s W => v = .slice (some ⟨gv, 0, none⟩) t cv ∧ s = .int .i64 0 ∧ W = W1) (fun _ s _ => 1 - (intOf s).toNat)
   case atStart => exact ⟨rfl, rfl, rfl⟩
   case round =>
    obtain ⟨rfl, rfl, hww1⟩ := hrel;subst hww1;rename World => W1
    have k2 := zu K2;have k3 := zu K3
    go_wp2_with (at_builtin; refine zu ?_)
    refine hide ?_;clear k2 k3;refine wpList_append_own _ rfl _ _ 94 rfl w.heap.size 3 iI _ 1 8 Tryz.underlying94 hi hz0 hz1 hz2 rfl (by decide) _ t _ rfl ((zu HOW).alloc _) _ 1 1 (natV [r]) rfl rfl (by first | exact news_cells _ _ rfl | exact news_cells _ _ (by simp)) (by intro u hu; simp only [natV, List.map_cons, List.map_nil, List.mem_singleton] at hu; subst hu; rfl) (by unfold maxLen; omega) (by omega) (Nat.le_trans (zu HW).size (by simp)) ?_;intro v' w1 hown' hgrow _
    have hbw : Below w.heap.size w w1 := ((zu HW).alloc (zu HW).size _).grown hgrow (Nat.le_trans (zu HW).size (by simp)) (fun g hg => (own_ge (zu HOW) g hg).1)
    have hown2 : w1.ownsRow w.heap.size 3 1 v' (t + 1) (natV (path (sc nm) (t + 1) i0)) := by
     rw [zu HPT];have e : natV (path (sc nm) t i0 ++ [r]) = natV (path (sc nm) t i0) ++ natV [r] := by simp [natV]
     rw [e];exact hown'
    have HO2 := hide hown2;have HBW := hide hbw;clear hown' hgrow hown2 hbw;go_wp2_with fail;go_roundw
    case rel => exact ⟨t + 1, by omega, by omega, by first | rfl | (simp only [Value.int.injEq, true_and]; omega), zu HO2, zu HBW⟩
    case measure => simp only [intOf]; omega
  ·have t1 : ¬ (0 : Int) < (L : Int) - (t : Int) := by omega
   have tz : decide ((0 : Int) < (L : Int) - (t : Int)) = false := df t1;have htl : L = t := by omega
   subst htl;clear hfv;go_wp2_with fail;go_ret;exact ⟨_, rfl, zu HOW, zu HW⟩
theorem shortP_any (u : Option Addr) (n cu : Nat) (nm : List (List Nat)) (w : World) (hl : nm.length = n) (hn : n ≤ 4000) (hu : NmAt w u nm) (ho : Oneful nm) :
  Calls Tryz.prog 151 #[.slice u n cu] w fun e w' => (∃ v b, e = .returned v ∧ Bst (sc nm) n b ∧ w'.ownsRow w.heap.size 3 1 v b.length (natV b)) ∧ Below w.heap.size w w' := by
 have HU := hide hu;have HN := hide hl;have HO := hide ho;clear hu hl ho;have hnil : ∀ (W : World) (a : Option Addr) (l c : Nat), (binOp .eql 94 (.slice a l c) (.slice none 0 0)).run Tryz.prog W = .ok (.bool a.isNone) W := fun W a l c => Lib.run_eql_slice_nil W 94 3 a l c 0 0 Tryz.underlying94
 go_enter Tryz.func151, Tryz.ntmps151;go_wp2_with fail
 go_loopw [3, 8] (fun v s W => ∃ (k : Nat) (b : List Nat), s = .int .i64 (k : Int) ∧ k ≤ n ∧ Bst (sc nm) k b ∧ W.ownsRow w.heap.size 3 1 v b.length (natV b) ∧ (b = [] → v = .slice none 0 0) ∧ Below w.heap.size w W) (fun _ s _ => n - (intOf s).toNat)
 case atStart => exact ⟨0, [], rfl, Nat.zero_le _, rfl, own_nil _ _ _ _, fun _ => rfl, bfl _ _⟩
 case round =>
  obtain ⟨k, b, rfl, hkn, hbst, hown, hnl, hw⟩ := hrel;rename World => W1
  obtain ⟨ub, cb, rfl, _, _, hfb⟩ := own_form hown;have HB := hide hbst;have HOW := hide hown;have HNL := hide hnl;have HW := hide hw;clear hbst hown hnl hw
  by_cases h : k < n
  ·have k1 : (k : Int) < (n : Int) := by omega
   have k0 : (0 : Int) ≤ (k : Int) := Int.natCast_nonneg _;have kz : decide ((k : Int) < (n : Int)) = true := dt k1;have HS := hide (stepsP_any u n cu k nm W1 (zu HN) hn h ((zu HU).bel (zu HW)) (zu HO));go_wp2_with fail;refine (zu HS).mono ?_;rintro e W2 ⟨⟨st, rfl, hvb, hst⟩, hb⟩;obtain ⟨L, hL⟩ := get_some hst.1 h;have c1 := hvb.cell (natV_at hL);have HW2 := hide (bc (zu HW) hb);have HOW2 := hide (own_bel (zu HOW) hb);have HV := hide hvb;have HST := hide hst;have HL := hide hL;clear hvb hst hL hb HS
   by_cases hL0 : 0 < L
   ·have l1 : (0 : Int) < (L : Int) := by omega
    have lz : decide ((0 : Int) < (L : Int)) = true := dt l1;have hcy : Cyc (sc nm) k (path (sc nm) L k) := .inl ⟨L, (zu HST).2.1 k L (zu HL) hL0, rfl⟩;have HB1 : Hid (Bst (sc nm) (k + 1) (better b (path (sc nm) L k))) := hide ⟨b, _, zu HB, hcy, rfl⟩;have HCC := hide (fun W (hb : Below W2.heap.size W2 W) => circP_any u n cu W1.heap.size k L nm st W (zu HN) hn h ((zu HU).bel (bc (zu HW2) hb)) (zu HO) (zu HST) ((zu HV).bel hb) (zu HL) hL0);clear hcy
    by_cases hb0 : b = []
    ·have e := zu HNL hb0
     simp only [Value.slice.injEq] at e;obtain ⟨rfl, e2, rfl⟩ := e;have hbt : better b (path (sc nm) L k) = path (sc nm) L k := if_pos ⟨by rw [path_len]; exact hL0, .inl e2⟩;rw [hbt] at HB1;clear hbt hb0;go_wp2_with fail;refine (zu HCC _ (bfl _ _)).mono ?_;rintro e W3 ⟨vc, rfl, hrc, hb3⟩;have HW3 := hide (bc (zu HW2) hb3);have HRC := hide (own_mono hrc (zu HW2).size);clear hrc hb3;go_wp2_with fail;go_roundw
     case rel => exact ⟨k + 1, path (sc nm) L k, by simp, h, zu HB1, by rw [path_len]; exact zu HRC, fun e => by have := congrArg List.length e; rw [path_len] at this; simp at this; omega, zu HW3⟩
     case measure => simp only [intOf]; omega
    ·have hbp : b.length ≠ 0 := fun e => hb0 (List.eq_nil_of_length_eq_zero e)
     obtain ⟨gb, rfl, _⟩ := hfb hbp
     by_cases hlt : L < b.length
     ·have m1 : (L : Int) < (b.length : Int) := by omega
      have mz : decide ((L : Int) < (b.length : Int)) = true := dt m1;have hbt : better b (path (sc nm) L k) = path (sc nm) L k := if_pos ⟨by rw [path_len]; exact hL0, .inr (by rw [path_len]; exact hlt)⟩;rw [hbt] at HB1;clear hbt hb0;go_wp2_with fail;refine (zu HCC _ (bfl _ _)).mono ?_;rintro e W3 ⟨vc, rfl, hrc, hb3⟩;have HW3 := hide (bc (zu HW2) hb3);have HRC := hide (own_mono hrc (zu HW2).size);clear hrc hb3;go_wp2_with fail;go_roundw
      case rel => exact ⟨k + 1, path (sc nm) L k, by simp, h, zu HB1, by rw [path_len]; exact zu HRC, fun e => by have := congrArg List.length e; rw [path_len] at this; simp at this; omega, zu HW3⟩
      case measure => simp only [intOf]; omega
     ·have m1 : ¬ (L : Int) < (b.length : Int) := by omega
      have mz : decide ((L : Int) < (b.length : Int)) = false := df m1;have hbt : better b (path (sc nm) L k) = b := if_neg (by rw [path_len]; omega);rw [hbt] at HB1;clear hbt;go_wp2_with fail;go_roundw
      case rel => exact ⟨k + 1, b, by simp, h, zu HB1, zu HOW2, fun e => (hb0 e).elim, zu HW2⟩
      case measure => simp only [intOf]; omega
   ·have l1 : ¬ (0 : Int) < (L : Int) := by omega
    have lz : decide ((0 : Int) < (L : Int)) = false := df l1;have hL00 : L = 0 := by omega
    have hcy : Cyc (sc nm) k [] := .inr ⟨(zu HST).2.2 k (by rw [zu HL, hL00]), rfl⟩;have HB1 : Hid (Bst (sc nm) (k + 1) (better b [])) := hide ⟨b, _, zu HB, hcy, rfl⟩;rw [show better b [] = b from if_neg (by simp)] at HB1;clear hcy hL00;go_wp2_with fail;go_roundw
    case rel => exact ⟨k + 1, b, by simp, h, zu HB1, zu HOW2, zu HNL, zu HW2⟩
    case measure => simp only [intOf]; omega
  ·have k1 : ¬ (k : Int) < (n : Int) := by omega
   have kz : decide ((k : Int) < (n : Int)) = false := df k1;have hk : n = k := by omega
   subst hk;clear hfb;go_wp2_with fail;go_ret
   first
   | exact ⟨⟨_, b, rfl, zu HB, zu HOW⟩, zu HW⟩
   | exact ⟨⟨_, rfl, b, zu HB, zu HOW⟩, zu HW⟩
def btw (x a b : Int) : Bool := decide (a ≤ x) && decide (x ≤ b)
theorem btw_any (x a b : Int) (w : World) : Calls Tryz.prog 58 #[.int .i64 x, .int .i64 a, .int .i64 b] w fun e w' => e = .returned (.bool (btw x a b)) ∧ w' = w := by
 unfold btw;go_enter Tryz.func58, Tryz.ntmps58;go_wp2
 all_goals
  go_ret;refine ⟨ret_bool ?_, rfl⟩
  first | (simp [*]; done) | (simp; omega)
def axOk (f l a b : Int) : Bool := decide (f ≤ a ∧ a < b ∧ b ≤ l)
def fitB (f l x0 y0 z0 x1 y1 z1 : Int) : Bool := axOk f l x0 x1 && axOk f l y0 y1 && axOk f l z0 z1
theorem fit_loose (x0 y0 z0 x1 y1 z1 : Int) : fitB (-24) 24 x0 y0 z0 x1 y1 z1 = loose x0 y0 z0 x1 y1 z1 := by
 unfold fitB loose axOk inG;rw [Bool.eq_iff_iff];simp;omega
theorem fits_any (f l x0 y0 z0 x1 y1 z1 : Int) (w : World) : Calls Tryz.prog 172 #[.agg #[.int .i64 x0, .int .i64 y0, .int .i64 z0, .int .i64 x1, .int .i64 y1, .int .i64 z1], .int .i64 f, .int .i64 l] w fun e w' => e = .returned (.bool (fitB f l x0 y0 z0 x1 y1 z1)) ∧ Below w.heap.size w w' := by
 go_enter Tryz.func172, Tryz.ntmps172;go_wp2;have HV := hide (vb_new (w.alloc (.cells #[.int .i64 x0, .int .i64 y0, .int .i64 z0, .int .i64 x1, .int .i64 y1, .int .i64 z1] 41)) 273 [.int .i64 x0, .int .i64 x1, .int .i64 y0, .int .i64 y1, .int .i64 z0, .int .i64 z1] _ rfl);have HB := hide (ba (ba (bfl w.heap.size w) (.cells #[.int .i64 x0, .int .i64 y0, .int .i64 z0, .int .i64 x1, .int .i64 y1, .int .i64 z1] 41)) (.cells #[.int .i64 x0, .int .i64 x1, .int .i64 y0, .int .i64 y1, .int .i64 z0, .int .i64 z1] 273));simp only [World.size_alloc] at HV
 go_loopw [26] (fun s W => ∃ i : Nat, s = .int .i64 (i : Int) ∧ i ≤ 3 ∧ vb W (w.heap.size + 1) 273 [.int .i64 x0, .int .i64 x1, .int .i64 y0, .int .i64 y1, .int .i64 z0, .int .i64 z1] ∧ (0 < i → axOk f l x0 x1 = true) ∧ (1 < i → axOk f l y0 y1 = true) ∧ (2 < i → axOk f l z0 z1 = true) ∧ Below w.heap.size w W) (fun s _ => 3 - (intOf s).toNat)
 case atStart => exact ⟨0, rfl, by omega, zu HV, fun h => by omega, fun h => by omega, fun h => by omega, zu HB⟩
 case round =>
  obtain ⟨i, rfl, hi, hv, h0, h1, h2, hw⟩ := hrel;have HW := hide hw;clear hw HV HB;have c0 := hv.cell (m := 0) rfl;have c1 := hv.cell (m := 1) rfl;have c2 := hv.cell (m := 2) rfl;have c3 := hv.cell (m := 3) rfl;have c4 := hv.cell (m := 4) rfl;have c5 := hv.cell (m := 5) rfl;have V := hide hv;have H0 := hide h0;have H1 := hide h1;have H2 := hide h2;clear hv h0 h1 h2;have hc : i = 0 ∨ i = 1 ∨ i = 2 ∨ i = 3 := by omega
  rcases hc with rfl | rfl | rfl | rfl
  ·go_wp2
   all_goals first
    | (go_ret; refine ⟨ret_bool ?_, by first | exact ba (zu HW) _⟩; simp [fitB, axOk]; omega)
    | skip
   go_roundw
   case rel => exact ⟨1, rfl, by omega, (zu V).bel (ba (bfl _ _) _), fun _ => dt (by omega), fun h => by omega, fun h => by omega, ba (zu HW) _⟩
   case measure => simp [intOf]
  ·have k0 := zu H0 (by omega)
   go_wp2
   all_goals first
    | (go_ret; refine ⟨ret_bool ?_, by first | exact ba (zu HW) _⟩; simp [fitB, axOk]; omega)
    | skip
   go_roundw
   case rel => exact ⟨2, rfl, by omega, (zu V).bel (ba (bfl _ _) _), fun _ => k0, fun _ => dt (by omega), fun h => by omega, ba (zu HW) _⟩
   case measure => simp [intOf]
  ·have k0 := zu H0 (by omega)
   have k1 := zu H1 (by omega);go_wp2
   all_goals first
    | (go_ret; refine ⟨ret_bool ?_, by first | exact ba (zu HW) _⟩; simp [fitB, axOk]; omega)
    | skip
   go_roundw
   case rel => exact ⟨3, rfl, by omega, (zu V).bel (ba (bfl _ _) _), fun _ => k0, fun _ => k1, fun _ => dt (by omega), ba (zu HW) _⟩
   case measure => simp [intOf]
  ·have k0 := zu H0 (by omega)
   have k1 := zu H1 (by omega);have k2 := zu H2 (by omega);go_wp2;go_ret;exact ⟨ret_bool (by simp [fitB, k0, k1, k2]), zu HW⟩
theorem eqA (s o v : ByteArray) (k d x0 y0 z0 x1 y1 z1 n dx dy dz : Int) (W : World) : (binOp .eql 75 (.agg #[.string s, .string o, .string v, .int .i64 k, .int .i64 d, .int .i64 x0, .int .i64 y0, .int .i64 z0, .int .i64 x1, .int .i64 y1, .int .i64 z1, .int .i64 n, .int .i64 dx, .int .i64 dy, .int .i64 dz]) (.agg #[.string s, .string o, .string ⟨#[]⟩, .int .i64 k, .int .i64 d, .int .i64 x0, .int .i64 y0, .int .i64 z0, .int .i64 x1, .int .i64 y1, .int .i64 z1, .int .i64 0, .int .i64 0, .int .i64 0, .int .i64 0])).run Tryz.prog W = .ok (.bool ((v.toList == []) && (n == 0) && (dx == 0) && (dy == 0) && (dz == 0))) W := by
 cases h0 : (v.toList == [])
 ·go_simp
 cases h1 : (n == 0)
 ·go_simp
 cases h2 : (dx == 0)
 ·go_simp
 cases h3 : (dy == 0)
 ·go_simp
 cases h4 : (dz == 0)
 ·go_simp
 go_simp
theorem eqB (s o v : ByteArray) (k d x0 y0 z0 x1 y1 z1 n dx dy dz : Int) (W : World) : (binOp .eql 75 (.agg #[.string s, .string o, .string v, .int .i64 k, .int .i64 d, .int .i64 x0, .int .i64 y0, .int .i64 z0, .int .i64 x1, .int .i64 y1, .int .i64 z1, .int .i64 n, .int .i64 dx, .int .i64 dy, .int .i64 dz]) (.agg #[.string s, .string ⟨#[]⟩, .string v, .int .i64 k, .int .i64 0, .int .i64 0, .int .i64 0, .int .i64 0, .int .i64 0, .int .i64 0, .int .i64 0, .int .i64 n, .int .i64 dx, .int .i64 dy, .int .i64 dz])).run Tryz.prog W = .ok (.bool ((o.toList == []) && (d == 0) && (x0 == 0) && (y0 == 0) && (z0 == 0) && (x1 == 0) && (y1 == 0) && (z1 == 0))) W := by
 cases h0 : (o.toList == [])
 ·go_simp
 cases h1 : (d == 0)
 ·go_simp
 cases h2 : (x0 == 0)
 ·go_simp
 cases h3 : (y0 == 0)
 ·go_simp
 cases h4 : (z0 == 0)
 ·go_simp
 cases h5 : (x1 == 0)
 ·go_simp
 cases h6 : (y1 == 0)
 ·go_simp
 cases h7 : (z1 == 0)
 ·go_simp
 go_simp
theorem stand_any (s o v : ByteArray) (k d x0 y0 z0 x1 y1 z1 n dx dy dz : Int) (w : World) (ho : o.size ≤ maxLen) : Calls Tryz.prog 173 #[ftv ⟨s, o, v, k, d, x0, y0, z0, x1, y1, z1, n, dx, dy, dz⟩] w fun e w' => e = .returned (.bool (if o.toList = [] then d == 0 else nameB o && btw d 1 6)) ∧ Below w.heap.size w w' := by
 have N := hide (fun W => implName_any o W ho);have B := hide (fun W => btw_any d 1 6 W);unfold ftv;generalize nameB o = b at *;generalize btw d 1 6 = c at *
 by_cases eo : o.toList = []
 ·rw [if_pos eo]
  go_enter Tryz.func173, Tryz.ntmps173;go_wp2;go_ret;exact ⟨rfl, ba (bfl _ _) _⟩
 ·rw [if_neg eo]
  have eo' : (o.toList == []) = false := by simpa using eo
  go_enter Tryz.func173, Tryz.ntmps173;go_wp2_with fail;refine (zu N _).mono ?_;rintro e W1 ⟨rfl, hb⟩;have c4 := keep1 hb (b := w.heap.size) (o := 4) (v := .int .i64 d) (by simp [go_sem])
  cases b
  ·go_wp2_with fail
   go_ret;exact ⟨rfl, bc (ba (bfl _ _) _) hb⟩
  go_wp2_with fail;refine (zu B _).mono ?_;rintro e W2 ⟨rfl, rfl⟩
  cases c <;> (go_wp2_with fail) <;> (go_ret; exact ⟨rfl, bc (ba (bfl _ _) _) hb⟩)
theorem step_any (s o v : ByteArray) (k d x0 y0 z0 x1 y1 z1 n dx dy dz : Int) (w : World) : Calls Tryz.prog 174 #[ftv ⟨s, o, v, k, d, x0, y0, z0, x1, y1, z1, n, dx, dy, dz⟩] w fun e w' => e = .returned (.bool (inG dx && inG dy && inG dz && decide (dx ≠ 0 ∨ dy ≠ 0 ∨ dz ≠ 0))) ∧ Below w.heap.size w w' := by
 have B0 := hide (fun W => btw_any dx (-24) 24 W);have B1 := hide (fun W => btw_any dy (-24) 24 W);have B2 := hide (fun W => btw_any dz (-24) 24 W);have e0 : ∀ x, btw x (-24) 24 = inG x := fun _ => rfl
 rw [e0] at B0 B1 B2;generalize inG dx = b0 at *;generalize inG dy = b1 at *;generalize inG dz = b2 at *;have V0 := hide (vb_new w 75 (ftc ⟨s, o, v, k, d, x0, y0, z0, x1, y1, z1, n, dx, dy, dz⟩) _ rfl);unfold ftv;go_enter Tryz.func174, Tryz.ntmps174;go_wp2;have HV := hide (vb_new (w.alloc (.cells (ftc ⟨s, o, v, k, d, x0, y0, z0, x1, y1, z1, n, dx, dy, dz⟩).toArray 75)) 3 [.int .i64 dx, .int .i64 dy, .int .i64 dz] _ rfl)
 have HB := hide (ba (ba (bfl w.heap.size w) (.cells (ftc ⟨s, o, v, k, d, x0, y0, z0, x1, y1, z1, n, dx, dy, dz⟩).toArray 75)) (.cells #[.int .i64 dx, .int .i64 dy, .int .i64 dz] 3));have HU := hide ((zu V0).bel (ba (bfl _ _) (.cells #[.int .i64 dx, .int .i64 dy, .int .i64 dz] 3)));simp only [World.size_alloc] at HV
 go_loopw [13] (fun u W => ∃ i : Nat, u = .int .i64 (i : Int) ∧ i ≤ 3 ∧ vb W (w.heap.size + 1) 3 [.int .i64 dx, .int .i64 dy, .int .i64 dz] ∧ vb W w.heap.size 75 (ftc ⟨s, o, v, k, d, x0, y0, z0, x1, y1, z1, n, dx, dy, dz⟩) ∧ (0 < i → b0 = true) ∧ (1 < i → b1 = true) ∧ (2 < i → b2 = true) ∧ Below w.heap.size w W) (fun u _ => 3 - (intOf u).toNat)
 case atStart => exact ⟨0, rfl, by omega, zu HV, zu HU, fun h => by omega, fun h => by omega, fun h => by omega, zu HB⟩
 case round =>
  obtain ⟨i, rfl, hi, hv, hu, h0, h1, h2, hw⟩ := hrel;have HW := hide hw;clear hw HV HB V0 HU;have c0 := hv.cell (m := 0) rfl;have c1 := hv.cell (m := 1) rfl;have c2 := hv.cell (m := 2) rfl;have d0 := hu.cell (m := 12) rfl;have d1 := hu.cell (m := 13) rfl;have d2 := hu.cell (m := 14) rfl;simp only at d0 d1 d2;have V := hide hv;have U := hide hu;have H0 := hide h0;have H1 := hide h1;have H2 := hide h2;clear hv h0 h1 h2 hu;have hc : i = 0 ∨ i = 1 ∨ i = 2 ∨ i = 3 := by omega
  rcases hc with rfl | rfl | rfl | rfl
  ·clear d0 d1 d2
   go_wp2_with fail;refine (zu B0 _).mono ?_;rintro e W2 ⟨rfl, rfl⟩
   cases b0
   ·go_wp2_with fail
    go_ret;exact ⟨rfl, zu HW⟩
   go_wp2_with fail;go_roundw
   case rel => exact ⟨1, rfl, by omega, zu V, zu U, fun _ => by first | rfl | simp, fun h => by omega, fun h => by omega, zu HW⟩
   case measure => simp [intOf]
  ·have k0 := zu H0 (by omega)
   clear d0 d1 d2;subst k0;go_wp2_with fail;refine (zu B1 _).mono ?_;rintro e W2 ⟨rfl, rfl⟩
   cases b1
   ·go_wp2_with fail
    go_ret;exact ⟨rfl, zu HW⟩
   go_wp2_with fail;go_roundw
   case rel => exact ⟨2, rfl, by omega, zu V, zu U, fun _ => by first | rfl | simp, fun _ => by first | rfl | simp, fun h => by omega, zu HW⟩
   case measure => simp [intOf]
  ·have k0 := zu H0 (by omega)
   have k1 := zu H1 (by omega);clear d0 d1 d2;subst k0;subst k1;go_wp2_with fail;refine (zu B2 _).mono ?_;rintro e W2 ⟨rfl, rfl⟩
   cases b2
   ·go_wp2_with fail
    go_ret;exact ⟨rfl, zu HW⟩
   go_wp2_with fail;go_roundw
   case rel => exact ⟨3, rfl, by omega, zu V, zu U, fun _ => by first | rfl | simp, fun _ => by first | rfl | simp, fun _ => by first | rfl | simp, zu HW⟩
   case measure => simp [intOf]
  ·have k0 := zu H0 (by omega)
   have k1 := zu H1 (by omega);have k2 := zu H2 (by omega);clear c0 c1 c2;subst k0;subst k1;subst k2;go_wp2
   all_goals
    go_ret;refine ⟨ret_bool ?_, zu HW⟩
    first | rfl | (simp; done) | (simp; omega) | (simp [*]; done) | (rw [Bool.eq_iff_iff]; simp; omega)
end Go.Proofs.YtkiplmabjeadgaaGreat
