/- Rows of rows, half made, whose blocks all lie above a bound. -/
import Derived.Test.YtkiplmabjeadgaaGreatOrMQ
import Derived.Deep.LoopGhost
import Derived.Test.YtkiplmabjeadgaaGreatFdMQ
namespace Go.Proofs.YtkiplmabjeadgaaGreat
set_option maxRecDepth 100000
set_option maxHeartbeats 16000000
open Go.ChangeShapes Go.WideShapes Go.ChangeAt Go.RowKit
set_option linter.unusedVariables false
set_option linter.unusedSimpArgs false
theorem idx_any (x : Option Addr) (l : List Nat) (cx z : Nat) (w : World) (hl : l.length ≤ 4096) (hx : l ≠ [] → ∃ b q, x = some ⟨b, q, none⟩ ∧ ∀ (k y : Nat), l[k]? = some y → w.cell? ⟨b, q + k, none⟩ = some (.int .i64 (y : Int))) :
  Calls Tryz.prog 228 #[.slice x l.length cx, .int .i64 (z : Int)] w fun e w' => (∃ r : Int, e = .returned (.int .i64 r) ∧ (decide (0 ≤ r)) = l.contains z) ∧ w' = w := by
 have HX := hide hx;clear hx;go_enter Tryz.func228, Tryz.ntmps228;go_wp2
 go_loopw [8] (fun s W => ∃ i : Nat, s = .int .i64 (i : Int) ∧ i ≤ l.length ∧ (∀ (j y : Nat), j < i → l[j]? = some y → y ≠ z) ∧ W = w) (fun s _ => l.length - (intOf s).toNat)
 case atStart => exact ⟨0, rfl, Nat.zero_le _, fun j y hj => by omega, rfl⟩
 case round =>
  obtain ⟨i, rfl, hil, hall, hw⟩ := hrel;subst hw;have HA := hide hall;clear hall
  by_cases h : i < l.length
  ·have i1 : (i : Int) < (l.length : Int) := by omega
   have i0 : (0 : Int) ≤ (i : Int) := Int.natCast_nonneg _;have iz : decide ((i : Int) < (l.length : Int)) = true := dt i1;have hy : l[i]? = some l[i] := List.getElem?_eq_getElem h;obtain ⟨b, q, rfl, hcell⟩ := zu HX (by intro e; rw [e] at h; simp at h);have hm : l[i] ∈ l := List.getElem_mem h;generalize l[i] = y at *;have k1 := hcell i y hy;have HY := hide hy;have HM := hide hm;clear hcell hy hm
   by_cases hyz : y = z
   ·have hb : ((z : Int) == (y : Int)) = true := by rw [beq_iff_eq]; omega
    have HYZ := hide hyz;clear hyz;go_wp2_with fail;go_ret;refine ⟨⟨(i : Int), rfl, ?_⟩, by first | rfl | trivial⟩;rw [dt i0];symm;rw [List.contains_eq_mem, ← zu HYZ];exact dt (zu HM)
   ·have hb : ((z : Int) == (y : Int)) = false := by rw [beq_eq_false_iff_ne]; omega
    have HYZ := hide hyz;clear hyz;go_wp2_with fail;go_roundw
    case rel =>
     refine ⟨i + 1, by simp, h, ?_, by first | rfl | trivial⟩;intro j k hj hk
     by_cases e : j = i
     ·subst e
      rw [zu HY] at hk
      cases hk
      exact zu HYZ
     ·exact zu HA j k (by omega) hk
    case measure => simp only [intOf]; omega
  ·have i1 : ¬ (i : Int) < (l.length : Int) := by omega
   have iz : decide ((i : Int) < (l.length : Int)) = false := df i1;go_wp2_with fail;go_ret;refine ⟨⟨-1, rfl, ?_⟩, by first | rfl | trivial⟩
   have hno : z ∉ l := by
    intro hy;obtain ⟨j, hj, e⟩ := List.getElem_of_mem hy;exact zu HA j _ (by omega) (List.getElem?_eq_getElem hj) e
   simp [hno]
theorem cont_any (x : Option Addr) (l : List Nat) (cx z : Nat) (w : World) (hl : l.length ≤ 4096) (hx : l ≠ [] → ∃ b q, x = some ⟨b, q, none⟩ ∧ ∀ (k y : Nat), l[k]? = some y → w.cell? ⟨b, q + k, none⟩ = some (.int .i64 (y : Int))) :
  Calls Tryz.prog 213 #[.slice x l.length cx, .int .i64 (z : Int)] w fun e w' => e = .returned (.bool (l.contains z)) ∧ w' = w := by
 have H := hide (idx_any x l cx z w hl hx);clear hx;go_enter Tryz.func213, Tryz.ntmps213;go_wp2_with fail;refine (zu H).mono ?_;rintro e W1 ⟨⟨r, rfl, hr⟩, hw1⟩;subst hw1;have HR := hide hr;clear hr;generalize hz : decide (0 ≤ r) = b at *
 cases b
 ·have hz' : ¬ 0 ≤ r := of_decide_eq_false hz
  go_wp2_with fail;go_ret;exact ⟨ret_bool (zu HR), rfl⟩
 ·have hz' : 0 ≤ r := of_decide_eq_true hz
  go_wp2_with fail;go_ret;exact ⟨ret_bool (zu HR), rfl⟩
def natV (l : List Nat) : List Value := l.map fun k : Nat => Value.int .i64 (k : Int)
theorem natV_nats (l : List Nat) : natV l = (nats l).map (Value.int .i64) := by simp [natV, nats]
theorem natV_at {l : List Nat} {i x : Nat} (h : l[i]? = some x) : (natV l)[i]? = some (.int .i64 (x : Int)) := by simp [natV, h]
theorem natV_set (l : List Nat) (i x : Nat) : (natV l).set i (.int .i64 (x : Int)) = natV (l.set i x) := by simp [natV, List.map_set]
def StAns (s : Nat → Option Nat) (n goal : Nat) (st : List Nat) : Prop := st.length = n ∧ (∀ m L, st[m]? = some L → 0 < L → First s m goal L) ∧ ∀ m, st[m]? = some 0 → ∀ L, ¬ First s m goal L
theorem stepsP_any (u : Option Addr) (n cu goal : Nat) (nm : List (List Nat)) (w : World) (hl : nm.length = n) (hn : n ≤ 4000) (hg : goal < n) (hu : NmAt w u nm) (ho : Oneful nm) :
  Calls Tryz.prog 176 #[.slice u n cu, .int .i64 (goal : Int)] w fun e w' => (∃ st, e = .returned (.slice (some ⟨w.heap.size, 0, none⟩) n n) ∧ vb w' w.heap.size 3 (natV st) ∧ StAns (sc nm) n goal st) ∧ Below w.heap.size w w' := by
 obtain ⟨iI, hi, hz0, hz1, hz2⟩ := info_parts info3;have hmk := fun W => make_vals (P := Tryz.prog) 94 3 8 n (.int .i64 0) rfl Tryz.underlying94 info3 (by omega) (by omega) W
 have hrep : List.replicate n (Value.int .i64 0) = natV (List.replicate n 0) := by simp [natV]
 rw [hrep] at hmk;clear hrep;have HU := hide hu;have HL := hide hl;have HO := hide ho;clear hu hl ho;go_enter Tryz.func176, Tryz.ntmps176;go_wp2_with fail;have HV0 := hide ((vb_new w 3 (natV (List.replicate n 0)) _ rfl).bel (ba (bfl _ _) (.cells #[.int .i64 (goal : Int)] 3)));have HB0 := hide (ba (ba (bfl w.heap.size w) (.cells (natV (List.replicate n 0)).toArray 3)) (.cells #[.int .i64 (goal : Int)] 3));have HR0 := hide ((vb_new (w.alloc (.cells (natV (List.replicate n 0)).toArray 3)) 3 (natV [goal]) _ rfl).owns (B := w.heap.size) (n := 1) (by simp) rfl (by decide))
 simp only [World.size_alloc] at HR0;clear hmk
 go_loopg [6, 7] (n + 2) (fun k v s W => ∃ (a : Nat) (st rch : List Nat), s = .int .i64 (a : Int) ∧ k = n + 2 - a ∧ StI (sc nm) n goal st rch a ∧ (a = 0 → nz st = 0) ∧ W.ownsRow w.heap.size 3 1 v rch.length (natV rch) ∧ v.ownBlock ≠ some w.heap.size ∧ vb W w.heap.size 3 (natV st) ∧ Below w.heap.size w W)
 case atStart => exact ⟨0, List.replicate n 0, [goal], rfl, rfl, StI.start hg, fun _ => by simp [nz, List.countP_replicate], zu HR0, by simp [Value.ownBlock], zu HV0, zu HB0⟩
 case round =>
  obtain ⟨a, st, rch, rfl, hgk, hsti, hz, hown, hob, hvb, hw⟩ := hrel;rename World => W1
  obtain ⟨uv, cap, rfl, _, _, hfv⟩ := own_form hown;have HST := hide hsti;have HZ := hide hz;have HOW := hide hown;have HOB := hide hob;have HV := hide hvb;have HW := hide hw;have HGK := hide hgk;have hral := hsti.al;have hrle := hsti.le;clear hz hown hob hvb hw hgk HV0 HB0 HR0
  by_cases h : a < rch.length
  ·have a1 : (a : Int) < (rch.length : Int) := by omega
   have a0 : (0 : Int) ≤ (a : Int) := Int.natCast_nonneg _;have az : decide ((a : Int) < (rch.length : Int)) = true := dt a1;have hra : rch[a]? = some rch[a] := List.getElem?_eq_getElem h;have hrn := hsti.lt _ (List.getElem_mem h);obtain ⟨gr, rfl, hgr1, hgr2, hcr⟩ := hfv (by omega);generalize rch[a] = r at *;have k1 := hcr a _ (natV_at hra);obtain ⟨d, hd⟩ := get_some hsti.len hrn;have k2 := (zu HV).cell (natV_at hd);have HKEY := hide (hsti.key hra (zu HZ) hd);have HRA := hide hra;have r1 : (r : Int) < (n : Int) := by omega
   have r0 : (0 : Int) ≤ (r : Int) := Int.natCast_nonneg _
   have hdn : d ≤ n := by
    rcases Nat.eq_zero_or_pos d with g | g
    ·omega
    ·have := (hsti.sound r d hd g).le (zu HO)
     rw [zu HL] at this;exact this
   clear hsti hcr hfv hra hd;have hdw : IntKind.i64.wrap ((d : Int) + 1) = ((d + 1 : Nat) : Int) := by rw [wrap_i (by omega) (by omega)]; omega
   go_wp2_with fail;clear k1 k2 hdw
   obtain ⟨fu, hfu⟩ : ∃ fu : Nat, fu = d + 1 := ⟨d + 1, rfl⟩
   rw [show (d : Int) + 1 = (fu : Int) by omega];rw [← hfu] at HKEY;have hfp : 0 < fu := by omega
   clear hfu
   go_loopw [6, 32] (fun v s W => ∃ (m : Nat) (st rch : List Nat), s = .int .i64 (m : Int) ∧ m ≤ n ∧ StI (sc nm) n goal st rch a ∧ rch[a]? = some r ∧ (∀ k, k < n → sc nm k = some r → st[k]? = some 0 → First (sc nm) k goal fu) ∧ (∀ k, k < m → sc nm k = some r → pos st k) ∧ W.ownsRow w.heap.size 3 1 v rch.length (natV rch) ∧ v.ownBlock ≠ some w.heap.size ∧ vb W w.heap.size 3 (natV st) ∧ Below w.heap.size w W) (fun _ s _ => n - (intOf s).toNat)
   case atStart => exact ⟨0, st, rch, rfl, Nat.zero_le _, zu HST, zu HRA, zu HKEY, fun k hk => by omega, zu HOW, zu HOB, zu HV, zu HW⟩
   case round =>
    clear HST HZ HOW HOB HV HW HKEY HRA hral hrle h a1 az hgr1 hgr2;obtain ⟨m, st, rch, rfl, hmn, hsti, hra, hkey, hpos, hown, hob, hvb, hw⟩ := hrel;rename World => W2
    obtain ⟨uv, cv, rfl, _, _, hfv⟩ := own_form hown;have hla : a < rch.length := (List.getElem?_eq_some_iff.1 hra).1;have hrle := hsti.le;have HST := hide hsti;have HRA := hide hra;have HKEY := hide hkey;have HPOS := hide hpos;have HOW := hide hown;have HOB := hide hob;have HV := hide hvb;have HW := hide hw;clear hkey hpos hown hob hvb hw
    by_cases h : m < n
    ·have m1 : (m : Int) < (n : Int) := by omega
     have m0 : (0 : Int) ≤ (m : Int) := Int.natCast_nonneg _;have mz : decide ((m : Int) < (n : Int)) = true := dt m1;obtain ⟨gv, rfl, hgv1, hgv2, hcr⟩ := hfv (by omega);have k1 := hcr a _ (natV_at hra);have a1 : (a : Int) < (rch.length : Int) := by omega
     obtain ⟨l, hx⟩ := get_some (zu HL) h;obtain ⟨gn, on, rfl, xv, xc, hcx, hin⟩ := ((zu HU).bel (zu HW)).at hx;have hll : l.length ≤ 1 := (zu HO).one l (List.mem_of_getElem? hx)
     have hsc : l.contains r = true ↔ sc nm m = some r := by
      have hsx : sc nm m = l.head? := by unfold sc; rw [hx]; rfl
      rw [hsx]
      match l, hll with
      | [], _ => simp
      | [b], _ => simp; exact eq_comm
     have HSC := hide hsc;have HC := hide (cont_any xv l xc r W2 (by omega) hin);obtain ⟨x, hsx⟩ := get_some hsti.len h;have k2 := (zu HV).cell (natV_at hsx);have HX := hide hsx;clear hsti hra hcr hfv hx hin hll hsc hsx
     by_cases hx0 : x = 0
     ·have hxb : ((x : Int) == 0) = true := by rw [beq_iff_eq]; omega
      have HX0 := hide hx0;clear hx0
      cases hlc : l.contains r
      ·rw [hlc] at HC HSC
       clear hlc;go_wp2_with fail;refine (zu HC).mono ?_;rintro e W3 ⟨rfl, hw3⟩;subst hw3;go_wp2_with fail;go_roundw
       case rel =>
        refine ⟨m + 1, st, rch, by simp, h, zu HST, zu HRA, zu HKEY, ?_, zu HOW, zu HOB, zu HV, zu HW⟩;intro k hk hs
        by_cases e : k = m
        ·subst e
         exact absurd ((zu HSC).2 hs) (by simp)
        ·exact zu HPOS k (by omega) hs
       case measure => simp only [intOf]; omega
      ·rw [hlc] at HC HSC
       clear hlc;have hsm : sc nm m = some r := (zu HSC).1 rfl;have hx00 := zu HX;rw [zu HX0] at hx00;have HF := hide (zu HKEY m h hsm hx00);have HX00 := hide hx00;clear hsm hx00;have fz : ∀ z, W2.frozen? ⟨w.heap.size, z, none⟩ = false := (zu HV).frozen;have HV2 := hide ((zu HV).set m (.int .i64 (fu : Int)));rw [natV_set] at HV2;have HR2 := hide (own_kept (zu HOW) (w' := W2.setCell ⟨w.heap.size, m, none⟩ (.int .i64 (fu : Int))) (fun g hg => by have h3 : g ≠ w.heap.size := (by intro e; subst e; exact zu HOB hg); exact Below.heap_setCell _ _ _ _ h3))
       have HW2 := hide (Below.setCell (zu HW) (p := ⟨w.heap.size, m, none⟩) (Nat.le_refl _) (.int .i64 (fu : Int)));have HSZ := hide (show (W2.setCell ⟨w.heap.size, m, none⟩ (.int .i64 (fu : Int))).heap.size = W2.heap.size by simp [World.setCell]);go_wp2_with fail;refine (zu HC).mono ?_;rintro e W3 ⟨rfl, hw3⟩;subst hw3;rename World => W2
       go_wp2_with (at_builtin; refine zu ?_)
       refine hide ?_;generalize W2.setCell ⟨w.heap.size, m, none⟩ (.int .i64 (fu : Int)) = W4 at *;clear fz k1 k2;refine wpList_append_new _ rfl _ _ 94 rfl w.heap.size 3 iI _ 1 8 Tryz.underlying94 hi hz0 hz1 hz2 rfl (by decide) _ rch.length (natV rch) rfl ((zu HR2).alloc _) _ 1 1 (natV [m]) rfl rfl (by first | exact news_cells _ _ (zu HSZ).symm | exact news_cells _ _ rfl) (by intro u hu; simp only [natV, List.map_cons, List.map_nil, List.mem_singleton] at hu; subst hu; rfl) (by unfold maxLen; omega) (by omega) (Nat.le_trans (zu HW2).size (by simp)) ?_;intro v' w1 hown' hgrow _ hnew
       have hbw : Below w.heap.size w w1 := ((zu HW2).alloc (zu HW2).size _).grown hgrow (Nat.le_trans (zu HW2).size (by simp)) (fun g hg => (own_ge (zu HR2) g hg).1)
       have hob2 : v'.ownBlock ≠ some w.heap.size := by
        intro e
        rcases hnew _ e with h1 | h1
        ·exact zu HOB h1
        ·have := (zu HV2).lt
         simp at h1;omega
       have HV3 := hide ((zu HV2).bel ((bfl _ _).alloc (Nat.le_refl _) (.cells (natV [m]).toArray 3)));have HV4 : Hid (vb w1 w.heap.size 3 (natV (st.set m fu))) := hide ((hgrow.block _ (by have := (zu HV2).lt; simp; omega) (by intro e; exact zu HOB e.symm)).trans (zu HV3))
       have hown2 : w1.ownsRow w.heap.size 3 1 v' (rch ++ [m]).length (natV (rch ++ [m])) := by
        rw [List.length_append];have e : natV (rch ++ [m]) = natV rch ++ natV [m] := by simp [natV]
        rw [e];exact hown'
       have HO2 := hide hown2;have HBW := hide hbw;clear hown' hgrow hnew hown2 hbw;go_wp2_with fail;go_roundw
       case rel =>
        refine ⟨m + 1, st.set m fu, rch ++ [m], by simp, h, (zu HST).put h (zu HX00) hfp (zu HF), ?_, ?_, ?_, zu HO2, hob2, zu HV4, zu HBW⟩
        ·rw [List.getElem?_append_left hla]
         exact zu HRA
        ·intro k hk hs hz
         apply zu HKEY k hk hs;rw [List.getElem?_set] at hz
         split at hz
         ·rename_i e
          split at hz
          ·cases hz; omega
          ·cases hz
         ·exact hz
        ·intro k hk hs
         by_cases e : k = m
         ·subst e
          exact pos_here (by rw [(zu HST).len]; exact h) hfp
         ·exact pos_set (zu HPOS k (by omega) hs) hfp
       case measure => simp only [intOf]; omega
     ·have hxb : ((x : Int) == 0) = false := by rw [beq_eq_false_iff_ne]; omega
      have HX0 := hide hx0;clear hx0;go_wp2_with fail;go_roundw
      case rel =>
       refine ⟨m + 1, st, rch, by simp, h, zu HST, zu HRA, zu HKEY, ?_, zu HOW, zu HOB, zu HV, zu HW⟩;intro k hk hs
       by_cases e : k = m
       ·subst e
        exact ⟨x, zu HX, by have := zu HX0; omega⟩
       ·exact zu HPOS k (by omega) hs
      case measure => simp only [intOf]; omega
    ·have m1 : ¬ (m : Int) < (n : Int) := by omega
     have mz : decide ((m : Int) < (n : Int)) = false := df m1;clear hsti hfv hra;go_wp2_with fail
     go_roundg (n + 2 - (a + 1))
     case measure => have := zu HGK; omega
     case rel =>
      refine ⟨a + 1, st, rch, by simp, rfl, (zu HST).next (zu HRA) (fun k hk hs => zu HPOS k (by omega) hs), fun e => by omega, zu HOW, zu HOB, zu HV, zu HW⟩
  ·have a1 : ¬ (a : Int) < (rch.length : Int) := by omega
   have az : decide ((a : Int) < (rch.length : Int)) = false := df a1;have har : rch.length = a := by omega
   subst har;clear hsti hfv;go_wp2_with fail;go_ret
   first
   | refine ⟨⟨st, rfl, zu HV, (zu HST).len, (zu HST).sound, ?_⟩, zu HW⟩
   | refine ⟨⟨rfl, st, zu HV, (zu HST).len, (zu HST).sound, ?_⟩, zu HW⟩
   intro m hm L f;obtain ⟨M, h1, h2⟩ := (zu HST).all (fun m p hp => by have := (sc_lt (zu HO) hp).1; rw [zu HL] at this; exact this) L m f;rw [hm] at h1
   cases h1
   omega
open Go.ChangeShapes Go.WideShapes Go.ChangeAt Go.RowKit Go.Maps Go.WideMaps
def NbAns (fs : List Ft) (f : Ft) (w : World) (e : Ending) (w' : World) : Prop :=
 (∃ va, e = .returned (.tuple #[va, .string ((wrg fs f).getD ⟨#[]⟩), .int .i64 (if (wrg fs f).isSome then 6 else 0)]) ∧ (∃ ua na ca, va = .slice ua na ca) ∧ (wrg fs f = none → w'.ownsRow (w.heap.size + 2) 3 1 va (nmd fs f).length (natV (nmd fs f)))) ∧ Below w.heap.size w w'
theorem nb_bad {fs : List Ft} {f : Ft} {w w' : World} {s : ByteArray} (h : wrg fs f = some s) (hb : Below w.heap.size w w') : NbAns fs f w (.returned (.tuple #[.slice none 0 0, .string s, .int .i64 6])) w' := by
 unfold NbAns;rw [h];exact ⟨⟨_, rfl, ⟨_, _, _, rfl⟩, fun h => by cases h⟩, hb⟩
theorem nb_ok {fs : List Ft} {f : Ft} {w w' : World} {va : Value} (h : wrg fs f = none) (hv : ∃ ua na ca, va = .slice ua na ca) (ho : w'.ownsRow (w.heap.size + 2) 3 1 va (nmd fs f).length (natV (nmd fs f))) (hb : Below w.heap.size w w') : NbAns fs f w (.returned (.tuple #[va, .string ⟨#[]⟩, .int .i64 0])) w' := by
 unfold NbAns;rw [h];exact ⟨⟨_, rfl, hv, fun _ => ho⟩, hb⟩
theorem namedP_any (u u3 u4 : Option Addr) (p po n cu b n3 c3 n4 c4 : Nat) (fs : List Ft) (f : Ft) (w : World) (hl : fs.length = n) (hn : n ≤ 4096) (hu : SlG ftc 15 w u p po fs) (hm : MapOf w b fs n) (htw : twi fs = none) (hs : f.on.size ≤ maxLen ∧ f.ov.size ≤ maxLen) (h1 : emp f.on = true ∨ emp f.ov = true) :
  Calls Tryz.prog 148 #[.agg #[.slice u n cu, .map (some b), .slice u3 n3 c3, .slice u4 n4 c4], ftv f] w (NbAns fs f w) := by
 obtain ⟨iI, hi, hz0, hz1, hz2⟩ := info_parts info3;obtain ⟨s, o, v, k, d, x0, y0, z0, x1, y1, z1, ct, dx, dy, dz⟩ := f;have htk : fs.take n = fs := List.take_of_length_le (by omega);have hlook := fun W (h : MapOf W b fs n) (t : ByteArray) (ht : t.size ≤ maxLen) => h.look (by omega) (fun j g _ hg => twi_none' htw j g hg) t ht
 rw [htk] at hlook;have HB := hide (ba (ba (bfl w.heap.size w) (.cells #[.slice u n cu, .map (some b), .slice u3 n3 c3, .slice u4 n4 c4] 135)) (.cells #[.string s, .string o, .string v, .int .i64 k, .int .i64 d, .int .i64 x0, .int .i64 y0, .int .i64 z0, .int .i64 x1, .int .i64 y1, .int .i64 z1, .int .i64 ct, .int .i64 dx, .int .i64 dy, .int .i64 dz] 75))
 have hmw := hm.bel (ba (ba (bfl w.heap.size w) (.cells #[.slice u n cu, .map (some b), .slice u3 n3 c3, .slice u4 n4 c4] 135)) (.cells #[.string s, .string o, .string v, .int .i64 k, .int .i64 d, .int .i64 x0, .int .i64 y0, .int .i64 z0, .int .i64 x1, .int .i64 y1, .int .i64 z1, .int .i64 ct, .int .i64 dx, .int .i64 dy, .int .i64 dz] 75));have lo := hlook _ hmw o hs.1;have lv := hlook _ hmw v hs.2
 have HU := hide (hu.bel (ba (ba (bfl w.heap.size w) (.cells #[.slice u n cu, .map (some b), .slice u3 n3 c3, .slice u4 n4 c4] 135)) (.cells #[.string s, .string o, .string v, .int .i64 k, .int .i64 d, .int .i64 x0, .int .i64 y0, .int .i64 z0, .int .i64 x1, .int .i64 y1, .int .i64 z1, .int .i64 ct, .int .i64 dx, .int .i64 dy, .int .i64 dz] 75)));have HL := hide hl;clear hlook hmw hm htw hs hu htk hl
 have hwr : wrg fs ⟨s, o, v, k, d, x0, y0, z0, x1, y1, z1, ct, dx, dy, dz⟩ = if emp o = false ∧ findN fs o = none then some o else if emp v = false then (match findN fs v with | none => some v | some q => if (fs.getD q ft0).kd = 3 ∨ emp (fs.getD q ft0).on = false then some v else none) else none := rfl;have hnm : nmd fs ⟨s, o, v, k, d, x0, y0, z0, x1, y1, z1, ct, dx, dy, dz⟩ = (if emp o then [] else [(findN fs o).getD 0]) ++ (if emp v then [] else [(findN fs v).getD 0]) := rfl;simp only at h1
 by_cases eo : o.toList = []
 ·have eo' : (o.toList == []) = true := by simp [eo]
  have c1 : emp o = true := by rw [emp_l]; exact eo'
  rw [if_neg (by rw [c1]; simp)] at hwr;rw [if_pos c1] at hnm
  by_cases ev : v.toList = []
  ·have ev' : (v.toList == []) = true := by simp [ev]
   have c2 : emp v = true := by rw [emp_l]; exact ev'
   rw [if_neg (by rw [c2]; simp)] at hwr;rw [if_pos c2] at hnm;have HWR := hide hwr;have HNM := hide hnm;clear c1 c2 h1 lo lv hwr hnm;unfold ftv;go_enter Tryz.func148, Tryz.ntmps148;go_wp2_with fail;refine bodyPost_ret (v := .tuple #[.slice none 0 0, .string ⟨#[]⟩, .int .i64 0]) (by simp [results, Tryz.results148, go_sem]; done) rfl ?_;exact nb_ok (zu HWR) ⟨_, _, _, rfl⟩ (by rw [zu HNM]; exact own_nil _ _ _ _) (zu HB)
  ·have ev' : (v.toList == []) = false := by simpa using ev
   have c2 : emp v = false := by rw [emp_l]; exact ev'
   rw [if_pos c2] at hwr;rw [if_neg (by rw [c2]; simp)] at hnm;clear c1 c2 h1 lo
   cases hf : findN fs v with
   | none =>
    rw [hf] at lv hwr;have HWR := hide hwr;simp only [Option.isSome_none] at lv;clear hf hwr hnm;unfold ftv;go_enter Tryz.func148, Tryz.ntmps148;go_wp2_with fail
    go_quiet (fail)
    go_wp2_with fail;refine bodyPost_ret (v := .tuple #[.slice none 0 0, .string v, .int .i64 6]) (by simp [results, Tryz.results148, go_sem]; done) rfl ?_;exact nb_bad (zu HWR) ((zu HB).trans ⟨rfl, rfl, rfl, Nat.le_refl _, fun _ _ => rfl⟩)
   | some q =>
    have hz : findZ fs v = (q : Int) := by unfold findZ; rw [hf]
    rw [hf, hz] at lv;rw [hf] at hwr hnm;simp only [Option.isSome_some] at lv;obtain ⟨g, hg, _⟩ := findN_at hf;have hq : (q : Int) < (n : Int) := by have := findN_lt hf; have := zu HL; omega
    have hq0 : (0 : Int) ≤ (q : Int) := by omega
    have hqn : q < n := by omega
    simp only [List.getD_eq_getElem?_getD, hg, Option.getD_some] at hwr hnm;have HNM := hide hnm;obtain ⟨rfl, pw, hc⟩ := (zu HU).at hg;have k1 := hc 1 (.string g.on) rfl;have k3 := hc 3 (.int .i64 g.kd) rfl;clear hc hf hg hz hnm
    by_cases q3 : g.kd = 3
    ·rw [if_pos (.inl q3)] at hwr
     have HWR := hide hwr;have q3' : (g.kd == 3) = true := by simp [q3]
     clear q3 hwr;unfold ftv;go_enter Tryz.func148, Tryz.ntmps148;go_wp2_with fail
     go_quiet (fail)
     go_wp2_with fail;refine bodyPost_ret (v := .tuple #[.slice none 0 0, .string v, .int .i64 6]) (by simp [results, Tryz.results148, go_sem]; done) rfl ?_;exact nb_bad (zu HWR) ((zu HB).trans ⟨rfl, rfl, rfl, Nat.le_refl _, fun _ _ => rfl⟩)
    have q3' : (g.kd == 3) = false := by simpa using q3
    by_cases q4 : g.on.toList = []
    ·have q4' : (g.on.toList == []) = true := by simp [q4]
     rw [if_neg (by rw [emp_l, q4']; simp [q3])] at hwr;have HWR := hide hwr;clear hwr;unfold ftv;go_enter Tryz.func148, Tryz.ntmps148
     go_wp2_with (at_builtin; refine zu ?_)
     refine hide ?_;refine wpList_append_own _ rfl _ _ 94 rfl (w.heap.size + 2) 3 iI _ 1 8 Tryz.underlying94 hi hz0 hz1 hz2 rfl (by decide) (.slice none 0 0) 0 [] rfl (own_nil _ _ _ _) _ 1 1 (natV [q]) rfl rfl (by first | exact news_cells _ _ (by simp) | exact news_cells _ _ rfl) (by intro u hu; simp only [natV, List.map_cons, List.map_nil, List.mem_singleton] at hu; subst hu; rfl) (by unfold maxLen; omega) (by omega) (by simp) ?_;intro v' w1 hown' hgrow _
     have hbw : Below (w.heap.size + 2) ((w.alloc (.cells #[.slice (some ⟨p, po, none⟩) n cu, .map (some b), .slice u3 n3 c3, .slice u4 n4 c4] 135)).alloc (.cells #[.string s, .string o, .string v, .int .i64 k, .int .i64 d, .int .i64 x0, .int .i64 y0, .int .i64 z0, .int .i64 x1, .int .i64 y1, .int .i64 z1, .int .i64 ct, .int .i64 dx, .int .i64 dy, .int .i64 dz] 75)) w1 := (ba (bfl _ _) (.cells (natV [q]).toArray 3) |>.mono (by simp)).grown hgrow (by simp) (fun g hg => by cases hg);have HO2 := hide hown';have HB2 := hide ((zu HB).trans (hbw.mono (by omega)))
     obtain ⟨ua, ca, rfl, _⟩ := own_form hown';clear hown' hgrow hbw;go_wp2_with fail;refine bodyPost_ret (v := .tuple #[.slice ua (0 + 1) ca, .string ⟨#[]⟩, .int .i64 0]) (by simp [results, Tryz.results148, go_sem]; done) rfl ?_;exact nb_ok (zu HWR) ⟨_, _, _, rfl⟩ (by rw [zu HNM]; exact zu HO2) (zu HB2)
    ·have q4' : (g.on.toList == []) = false := by simpa using q4
     rw [if_pos (by rw [emp_l, q4']; simp)] at hwr;have HWR := hide hwr;clear hwr;unfold ftv;go_enter Tryz.func148, Tryz.ntmps148;go_wp2_with fail
     go_quiet (fail)
     go_wp2_with fail;refine bodyPost_ret (v := .tuple #[.slice none 0 0, .string v, .int .i64 6]) (by simp [results, Tryz.results148, go_sem]; done) rfl ?_;exact nb_bad (zu HWR) ((zu HB).trans ⟨rfl, rfl, rfl, Nat.le_refl _, fun _ _ => rfl⟩)
 ·have eo' : (o.toList == []) = false := by simpa using eo
  have c1 : emp o = false := by rw [emp_l]; exact eo'
  have c2 : emp v = true := by
   rcases h1 with h | h
   ·rw [c1] at h; cases h
   ·exact h
  have ev' : (v.toList == []) = true := by rw [← emp_l]; exact c2
  have ev : v.toList = [] := by simpa using ev'
  rw [if_neg (by rw [c1]; simp), if_pos c2] at hnm;clear h1 lv
  cases hf : findN fs o with
  | none =>
   rw [if_pos ⟨c1, hf⟩] at hwr;rw [hf] at lo;have HWR := hide hwr;simp only [Option.isSome_none] at lo;clear hf hwr hnm c1 c2;unfold ftv;go_enter Tryz.func148, Tryz.ntmps148;go_wp2_with fail
   go_quiet (fail)
   go_wp2_with fail;refine bodyPost_ret (v := .tuple #[.slice none 0 0, .string o, .int .i64 6]) (by simp [results, Tryz.results148, go_sem]; done) rfl ?_;exact nb_bad (zu HWR) ((zu HB).trans ⟨rfl, rfl, rfl, Nat.le_refl _, fun _ _ => rfl⟩)
  | some q =>
   rw [if_neg (by rw [hf]; simp), if_neg (by rw [c2]; simp)] at hwr;have hz : findZ fs o = (q : Int) := by unfold findZ; rw [hf]
   rw [hf, hz] at lo;rw [hf] at hnm;simp only [Option.isSome_some] at lo;have HWR := hide hwr;have HNM := hide hnm;clear hf hz hwr hnm c1 c2;unfold ftv;go_enter Tryz.func148, Tryz.ntmps148
   go_wp2_with (at_builtin; refine zu ?_)
   refine hide ?_;refine wpList_append_own _ rfl _ _ 94 rfl (w.heap.size + 2) 3 iI _ 1 8 Tryz.underlying94 hi hz0 hz1 hz2 rfl (by decide) (.slice none 0 0) 0 [] rfl (own_nil _ _ _ _) _ 1 1 (natV [q]) rfl rfl (by first | exact news_cells _ _ (by simp) | exact news_cells _ _ rfl) (by intro u hu; simp only [natV, List.map_cons, List.map_nil, List.mem_singleton] at hu; subst hu; rfl) (by unfold maxLen; omega) (by omega) (by simp) ?_;intro v' w1 hown' hgrow _
   have hbw : Below (w.heap.size + 2) ((w.alloc (.cells #[.slice u n cu, .map (some b), .slice u3 n3 c3, .slice u4 n4 c4] 135)).alloc (.cells #[.string s, .string o, .string v, .int .i64 k, .int .i64 d, .int .i64 x0, .int .i64 y0, .int .i64 z0, .int .i64 x1, .int .i64 y1, .int .i64 z1, .int .i64 ct, .int .i64 dx, .int .i64 dy, .int .i64 dz] 75)) w1 := (ba (bfl _ _) (.cells (natV [q]).toArray 3) |>.mono (by simp)).grown hgrow (by simp) (fun g hg => by cases hg);have HO2 := hide hown';have HB2 := hide ((zu HB).trans (hbw.mono (by omega)))
   have y2 := keepN hbw (b := w.heap.size + 1) (o := 2) (v := .string v) (by simp [go_sem]) (by omega);obtain ⟨ua, ca, rfl, _⟩ := own_form hown';clear hown' hgrow hbw;go_wp2_with fail;refine bodyPost_ret (v := .tuple #[.slice ua (0 + 1) ca, .string ⟨#[]⟩, .int .i64 0]) (by simp [results, Tryz.results148, go_sem]; done) rfl ?_;exact nb_ok (zu HWR) ⟨_, _, _, rfl⟩ (by rw [zu HNM]; exact zu HO2) (zu HB2)
theorem namesP_any (u u3 u4 ub : Option Addr) (p po n cu bm n3 c3 n4 c4 cb m : Nat) (fs : List Ft) (b : List Nat) (w : World) (hl : fs.length = n) (hu : SlG ftc 15 w u p po fs) (hm : b.length = m) (hbl : m ≤ 4096) (hlt : ∀ x ∈ b, x < n) (hin : b ≠ [] → ∃ g o, ub = some ⟨g, o, none⟩ ∧ g < w.heap.size ∧ IntsAt w g o (nats b)) :
  Calls Tryz.prog 150 #[.agg #[.slice u n cu, .map (some bm), .slice u3 n3 c3, .slice u4 n4 c4], .slice ub m cb] w fun e w' => (∃ v, e = .returned v ∧ SRow w' w.heap.size v (b.map (nmOf fs))) ∧ Below w.heap.size w w' := by
 obtain ⟨iT, ht, hx0, hx1, hx2⟩ := info_parts info9;have HU := hide hu;have HL := hide hl;have HT := hide hlt;have HIN := hide hin;have HM := hide hm;have HC0 := hide (vb_new w 135 [.slice u n cu, .map (some bm), .slice u3 n3 c3, .slice u4 n4 c4] _ rfl);have HB0 := hide (ba (bfl w.heap.size w) (.cells #[.slice u n cu, .map (some bm), .slice u3 n3 c3, .slice u4 n4 c4] 135));clear hu hl hlt hin hm;go_enter Tryz.func150, Tryz.ntmps150;go_wp2_with fail
 go_loopw [5, 10] (fun v s W => ∃ j : Nat, s = .int .i64 (j : Int) ∧ j ≤ m ∧ W.ownsRow (w.heap.size + 1) 9 1 v j (strs ((b.take j).map (nmOf fs))) ∧ vb W w.heap.size 135 [.slice u n cu, .map (some bm), .slice u3 n3 c3, .slice u4 n4 c4] ∧ w.heap.size + 1 ≤ W.heap.size ∧ Below w.heap.size w W) (fun _ s _ => m - (intOf s).toNat)
 case atStart => exact ⟨0, rfl, Nat.zero_le _, own_nil _ _ _ _, zu HC0, by simp, zu HB0⟩
 case round =>
  obtain ⟨j, rfl, hjb, hown, hvb, hsz, hw⟩ := hrel;rename World => W5
  have HOW := hide hown;have HVB := hide hvb;have HW5 := hide hw;have c0 := hvb.cell (m := 0) rfl;obtain ⟨uq, cq, rfl, _⟩ := own_form hown;clear hown hw hvb HC0 HB0
  by_cases h : j < m
  ·have i1 : (j : Int) < (m : Int) := by omega
   have i0 : (0 : Int) ≤ (j : Int) := Int.natCast_nonneg _;have iz : decide ((j : Int) < (m : Int)) = true := dt i1;have hjl : j < b.length := by rw [zu HM]; exact h
   have hbj : b[j]? = some b[j] := List.getElem?_eq_getElem hjl;have hbn := zu HT _ (List.getElem_mem hjl);obtain ⟨gb, ob, rfl, hgb, hib⟩ := zu HIN (by intro e; rw [e] at hjl; simp at hjl);have k1 := (hib.below (zu HW5) hgb) j _ (nats_at hbj);have htk := strs_take (fs := fs) hbj;generalize b[j] = y at *;have y1 : (y : Int) < (n : Int) := by omega
   have y0 : (0 : Int) ≤ (y : Int) := Int.natCast_nonneg _;obtain ⟨f, hx⟩ := get_some (zu HL) hbn;rw [show nmOf fs y = f.nm by unfold nmOf; rw [getD_at hx]] at htk;have HTK := hide htk;obtain ⟨rfl, k0, _⟩ := ((zu HU).bel (zu HW5)).at15 hx;clear hx htk hib hbj
   go_wp2_with (at_builtin; refine zu ?_)
   refine hide ?_;refine wpList_append_own _ rfl _ _ 23 rfl (w.heap.size + 1) 9 iT _ 1 16 Tryz.underlying23 ht hx0 hx1 hx2 rfl (by decide) _ j _ rfl ((zu HOW).alloc _) _ 1 1 (strs [f.nm]) rfl rfl (by first | exact news_cells _ _ rfl | exact news_cells _ _ (by simp)) (by intro u hu; simp only [strs, List.map_cons, List.map_nil, List.mem_singleton] at hu; subst hu; rfl) (by unfold maxLen; omega) (by omega) (Nat.le_trans hsz (by simp)) ?_;intro v' w1 hown' hgrow _
   have hbw1 : Below (w.heap.size + 1) W5 w1 := ((bfl _ _).alloc hsz (.cells (strs [f.nm]).toArray 9)).grown hgrow (Nat.le_trans hsz (by simp)) (fun g hg => (own_ge (zu HOW) g hg).1)
   have hown2 : w1.ownsRow (w.heap.size + 1) 9 1 v' (j + 1) (strs ((b.take (j + 1)).map (nmOf fs))) := by
    rw [zu HTK];exact hown'
   have HO2 := hide hown2;have HBB := hide hbw1;clear hown' hgrow hown2 hbw1;go_wp2_with fail;go_roundw
   case rel => exact ⟨j + 1, by simp, h, zu HO2, (zu HVB).below (zu HBB) (by omega), Nat.le_trans hsz (zu HBB).size, (zu HW5).trans ((zu HBB).mono (by omega))⟩
   case measure => simp only [intOf]; omega
  ·have i1 : ¬ (j : Int) < (m : Int) := by omega
   have iz : decide ((j : Int) < (m : Int)) = false := df i1;have hjb' : m = j := by omega
   subst hjb';have hown := zu HOW;rw [List.take_of_length_le (by rw [zu HM]; omega)] at hown
   have hsr : SRow W5 w.heap.size (.slice uq m cq) (b.map (nmOf fs)) := by
    unfold SRow;rw [List.length_map, zu HM];exact own_mono hown (by omega)
   have HSR := hide hsr;clear hsr hown c0;go_wp2_with fail;go_ret;exact ⟨⟨_, rfl, zu HSR⟩, zu HW5⟩
def InnB (B : Nat) (ob : Option Nat) (w : World) (v : Value) (l : List Nat) : Prop := ∃ (u : Option Addr) (c : Nat), v = .slice u l.length c ∧ (l ≠ [] → ∃ g o, u = some ⟨g, o, none⟩ ∧ B ≤ g ∧ g < w.heap.size ∧ some g ≠ ob ∧ IntsAt w g o (nats l))
theorem InnB.inn {B : Nat} {ob : Option Nat} {w : World} {v : Value} {l : List Nat} (h : InnB B ob w v l) : Inn w v l := by
 obtain ⟨u, c, rfl, h1⟩ := h;refine ⟨u, c, rfl, fun h0 => ?_⟩;obtain ⟨g, o, rfl, _, h2, _, h3⟩ := h1 h0;exact ⟨g, o, rfl, h2, h3⟩
theorem InnB.bel {B : Nat} {ob : Option Nat} {w w' : World} {v : Value} {l : List Nat} (h : InnB B ob w v l) (hb : Below w.heap.size w w') : InnB B ob w' v l := by
 obtain ⟨u, c, rfl, h1⟩ := h;refine ⟨u, c, rfl, fun h0 => ?_⟩;obtain ⟨g, o, rfl, hB, h2, h4, h3⟩ := h1 h0;exact ⟨g, o, rfl, hB, Nat.lt_of_lt_of_le h2 hb.size, h4, h3.below hb h2⟩
theorem InnB.grow {B : Nat} {w w' : World} {v x x' : Value} {l : List Nat} (h : InnB B x.ownBlock w v l) (hg : w.grownBy w' x.ownBlock) (hn : NewBlk w x x') : InnB B x'.ownBlock w' v l := by
 obtain ⟨u, c, rfl, h1⟩ := h;refine ⟨u, c, rfl, fun h0 => ?_⟩;obtain ⟨g, o, rfl, hB, h2, h4, h3⟩ := h1 h0;refine ⟨g, o, rfl, hB, Nat.lt_of_lt_of_le h2 hg.size, ?_, fun j z hj => (World.cell?_of_block (w := w) (a := ⟨g, o + j, none⟩) (hg.block g h2 h4)).trans (h3 j z hj)⟩;intro e
 rcases hn g e.symm with k | k
 ·exact h4 k.symm
 ·omega
theorem InnB.blk {B : Nat} {ob : Option Nat} {w w' : World} {v : Value} {l : List Nat} (h : InnB B ob w v l) (hsz : w.heap.size ≤ w'.heap.size) (hb : ∀ g, B ≤ g → w'.heap[g]? = w.heap[g]?) : InnB B ob w' v l := by
 obtain ⟨u, c, rfl, h1⟩ := h;refine ⟨u, c, rfl, fun h0 => ?_⟩;obtain ⟨g, o, rfl, hB, h2, h4, h3⟩ := h1 h0;exact ⟨g, o, rfl, hB, Nat.lt_of_lt_of_le h2 hsz, h4, fun j z hj => (World.cell?_of_block (w := w) (a := ⟨g, o + j, none⟩) (hb g hB)).trans (h3 j z hj)⟩
def HalfB (w : World) (B : Nat) (v : Value) (nm : List (List Nat)) : Prop := ∃ vs : List Value, w.ownsRow B 94 1 v nm.length vs ∧ ∀ (j : Nat) (l : List Nat), nm[j]? = some l → ∃ x, vs[j]? = some x ∧ InnB B v.ownBlock w x l
theorem HalfB.bel {w w' : World} {B : Nat} {v : Value} {nm : List (List Nat)} (h : HalfB w B v nm) (hb : Below w.heap.size w w') : HalfB w' B v nm := by
 obtain ⟨vs, h1, h2⟩ := h;refine ⟨vs, own_bel h1 hb, fun j l hj => ?_⟩;obtain ⟨x, hx, hi⟩ := h2 j l hj;exact ⟨x, hx, hi.bel hb⟩
theorem HalfB.blk {w w' : World} {B : Nat} {v : Value} {nm : List (List Nat)} (h : HalfB w B v nm) (hsz : w.heap.size ≤ w'.heap.size) (hb : ∀ g, B ≤ g → w'.heap[g]? = w.heap[g]?) : HalfB w' B v nm := by
 obtain ⟨vs, h1, h2⟩ := h;refine ⟨vs, own_kept h1 (fun g hg => hb g (own_ge h1 g hg).1), fun j l hj => ?_⟩;obtain ⟨x, hx, hi⟩ := h2 j l hj;exact ⟨x, hx, hi.blk hsz hb⟩
theorem HalfB.set {w : World} {B g o : Nat} {v x : Value} {nm : List (List Nat)} (h : HalfB w B v nm) (hg : g < B) : HalfB (w.setCell ⟨g, o, none⟩ x) B v nm :=
 h.blk (by simp [World.setCell]) (fun k hk => Below.heap_setCell _ _ _ _ (by show k ≠ g; omega))
theorem HalfB.nmS {w : World} {B : Nat} {v : Value} {nm : List (List Nat)} (h : HalfB w B v nm) : NmS w v nm := by
 obtain ⟨vs, h1, h2⟩ := h;obtain ⟨u, cap, rfl, _, _, h3⟩ := own_form h1;refine ⟨u, cap, rfl, fun h0 => ?_⟩;obtain ⟨g, rfl, _, hg, hc⟩ := h3 (by intro e; exact h0 (List.eq_nil_of_length_eq_zero e));refine ⟨g, 0, rfl, hg, fun i l hi => ?_⟩;obtain ⟨x, hx, hI⟩ := h2 i l hi;exact ⟨x, by rw [Nat.zero_add]; exact hc i x hx, hI.inn⟩
theorem half_more {W2 w1 : World} {B : Nat} {v v' va : Value} {nm : List (List Nat)} {l : List Nat} {i : Nat} {vs : List Value} (hi : nm.length = i) (h1 : W2.ownsRow B 94 1 v i vs) (h2 : ∀ (j : Nat) (l : List Nat), nm[j]? = some l → ∃ x, vs[j]? = some x ∧ InnB B v.ownBlock W2 x l) (hown' : w1.ownsRow B 94 1 v' (i + 1) (vs ++ [va])) (hal : Below W2.heap.size W2 (W2.alloc (.cells #[va] 94))) (hgrow : (W2.alloc (.cells #[va] 94)).grownBy w1 v.ownBlock) (hnew : NewBlk (W2.alloc (.cells #[va] 94)) v v') (hva : InnB B v.ownBlock W2 va l) : HalfB w1 B v' (nm ++ [l]) := by
 have hvl : vs.length = i := by have := h1.1; omega
 refine ⟨vs ++ [va], by rw [List.length_append, hi]; exact hown', fun j k hj => ?_⟩
 by_cases hji : j < i
 ·rw [List.getElem?_append_left (by omega)] at hj
  obtain ⟨x, hx, hI⟩ := h2 j k hj;exact ⟨x, by rw [List.getElem?_append_left (by omega)]; exact hx, (hI.bel hal).grow hgrow hnew⟩
 ·rw [List.getElem?_append_right (by omega)] at hj
  have hj0 : j - nm.length = 0 := by
   rcases Nat.eq_zero_or_pos (j - nm.length) with e | e
   ·exact e
   ·rw [List.getElem?_eq_none (by simp; omega)] at hj; cases hj
  rw [hj0] at hj
  cases hj
  exact ⟨va, by rw [List.getElem?_append_right (by omega), show j - vs.length = 0 by omega]; rfl, (hva.bel hal).grow hgrow hnew⟩
end Go.Proofs.YtkiplmabjeadgaaGreat
