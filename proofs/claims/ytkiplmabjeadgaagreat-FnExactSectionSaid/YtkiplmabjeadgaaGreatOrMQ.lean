/- By how many steps of naming each comes to a goal: what the search keeps. -/
import Derived.Test.YtkiplmabjeadgaaGreatFdMQ
import Derived.Test.YtkiplmabjeadgaaGreatCkMQ
namespace Go.Proofs.YtkiplmabjeadgaaGreat
set_option maxRecDepth 100000
set_option maxHeartbeats 16000000
open Go.ChangeShapes Go.WideShapes Go.ChangeAt Go.RowKit
set_option linter.unusedVariables false
set_option linter.unusedSimpArgs false
theorem wo_next {nm : List (List Nat)} (h : (ord nm).length = nm.length) {m : Nat} (hm : m < nm.length) (hl : (wo nm m).length = m) : ∃ i, ff nm (wo nm m) = some i := by
 cases e : ff nm (wo nm m) with
 | some i => exact ⟨i, rfl⟩
 | none =>
  rw [ord_of e (by omega)] at h;omega
theorem all_take {l : List Nat} {k y : Nat} (h : l[k]? = some y) (P : Nat → Bool) : (l.take (k + 1)).all P = ((l.take k).all P && P y) := by
 rw [List.take_add_one, h];simp
theorem orderM_any (u : Option Addr) (n cu : Nat) (nm : List (List Nat)) (w : World) (hl : nm.length = n) (hn : n ≤ 4096) (hu : NmAt w u nm) (hlt : ∀ l ∈ nm, l.length ≤ 4096 ∧ ∀ x ∈ l, x < n) (ho : (ord nm).length = nm.length) :
  Calls Tryz.prog 76 #[.slice u n cu] w fun e w' => ∃ v, e = .returned v ∧ Row w' w.heap.size 3 1 v n (nats (ord nm)) ∧ Below w.heap.size w w' := by
 obtain ⟨i0, hi, hz0, hz1, hz2⟩ := info_parts info3;have hmk := fun W => make_vals (P := Tryz.prog) 95 4 1 n (.bool false) rfl Tryz.underlying95 info4 (by omega) (by omega) W
 have HU := hide hu;have HL := hide hl;have HT := hide hlt;have HO := hide ho;clear hu hl hlt ho;rw [← bl_nil] at hmk;go_enter Tryz.func76, Tryz.ntmps76;go_wp2_with fail;have HR0 := hide ((row_made w 3 w.heap.size 1 (Nat.le_refl _) _ rfl).below (ba (bfl _ _) (.cells (bl n []).toArray 4)));have HV0 := hide (vb_new (w.alloc (.cells #[] 3)) 4 (bl n []) _ rfl);have HB0 := hide (ba (ba (bfl w.heap.size w) (.cells #[] 3)) (.cells (bl n []).toArray 4));simp only [World.size_alloc] at HV0;clear hmk
 go_loopw [3] (fun v W => ∃ m : Nat, m ≤ n ∧ (wo nm m).length = m ∧ Row W w.heap.size 3 1 v m (nats (wo nm m)) ∧ v.ownBlock ≠ some (w.heap.size + 1) ∧ vb W (w.heap.size + 1) 4 (bl n (wo nm m)) ∧ Below w.heap.size w W) (fun v _ => n - (match v with | .slice _ k _ => k | _ => 0))
 case atStart => exact ⟨0, Nat.zero_le _, rfl, zu HR0, by simp [Value.ownBlock], zu HV0, zu HB0⟩
 case round =>
  obtain ⟨m, hm, hml, hrow, hob, hvb, hw⟩ := hrel
  obtain ⟨uv, cap, rfl, hcap⟩ : ∃ (uv : Option Addr) (cap : Nat), _ = Value.slice uv m cap ∧ True := by
   obtain ⟨a, b, e, _⟩ := hrow.form;exact ⟨a, b, e, trivial⟩
  have HR := hide hrow;have HV := hide hvb;have HW := hide hw;have HOB := hide hob;have HML := hide hml;have HU1 := hide ((zu HU).bel hw);clear hrow hvb hw hob hml hcap HR0 HV0 HB0
  by_cases h : m < n
  ·have m1 : (m : Int) < (n : Int) := by omega
   have mz : decide ((m : Int) < (n : Int)) = true := dt m1;obtain ⟨q, hq⟩ := wo_next (zu HO) (by rw [zu HL]; exact h) (zu HML);obtain ⟨q1, q2, q3, q4⟩ := ff_some hq;rw [zu HL] at q1;have Q2 := hide q2;have Q3 := hide q3;have Q4 := hide q4;have HQ := hide hq;clear q2 q3 q4 hq;generalize ho : wo nm m = o at *;have HO2 := hide ho;clear ho;go_wp2_with fail;rename World => W1
   go_loopw [3, 5] (fun z s W => z = .slice uv m cap ∧ ∃ i : Nat, s = .int .i64 (i : Int) ∧ i ≤ q ∧ W = W1) (fun _ s _ => n - (intOf s).toNat)
   case atStart => exact ⟨rfl, 0, rfl, Nat.zero_le _, rfl⟩
   case round =>
    obtain ⟨rfl, i, rfl, hiq, hww⟩ := hrel;subst hww;have j1 : (i : Int) < (n : Int) := by omega
    have j0 : (0 : Int) ≤ (i : Int) := Int.natCast_nonneg _;have jz : decide ((i : Int) < (n : Int)) = true := dt j1;obtain ⟨l, hx⟩ := get_some (zu HL) (show i < n by omega);obtain ⟨g, go, rfl, x, c, hc, hin⟩ := (zu HU1).at hx;have d0 := (zu HV).cell (bl_at (show i < n by omega));have HIN := hide hin;have HLX := hide (zu HT l (List.mem_of_getElem? hx))
    have hrd : rdy nm o i = (!o.contains i && l.all fun p => o.contains p) := by
     unfold rdy;rw [List.getD_eq_getElem?_getD, hx];rfl
    have HRD := hide hrd;have hlen := (zu HT l (List.mem_of_getElem? hx)).1;clear hin hx hrd;generalize hb0 : o.contains i = b0 at *;have HB0 := hide hb0;clear hb0;go_wp2_with fail;rename World => W1
    go_loopw [6, 7] (fun r k W => ∃ j : Nat, k = .int .i64 (j : Int) ∧ j ≤ l.length ∧ r = .bool (!b0 && (l.take j).all fun p => o.contains p) ∧ W = W1) (fun _ k _ => l.length - (intOf k).toNat)
    case atStart => exact ⟨0, rfl, Nat.zero_le _, by simp, rfl⟩
    case round =>
     obtain ⟨j, rfl, hj, hr, hww⟩ := hrel;subst hww;subst hr;rename World => W1
     by_cases hjl : j < l.length
     ·have t1 : (j : Int) < (l.length : Int) := by omega
      have t0 : (0 : Int) ≤ (j : Int) := Int.natCast_nonneg _;have tz : decide ((j : Int) < (l.length : Int)) = true := dt t1;have hy : l[j]? = some l[j] := List.getElem?_eq_getElem hjl;obtain ⟨b, qo, rfl, hcell⟩ := zu HIN (by intro e; rw [e] at hjl; simp at hjl);have hyl : l[j] < n := (zu HLX).2 _ (List.getElem_mem hjl);have hat := all_take hy (fun p => o.contains p);have HAT := hide hat;clear hat;generalize l[j] = y at *;have k1 := hcell j y hy;have d1 := (zu HV).cell (bl_at hyl);have y1 : (y : Int) < (n : Int) := by omega
      have y0 : (0 : Int) ≤ (y : Int) := Int.natCast_nonneg _;clear hcell hy;generalize hrr : (!b0 && (l.take j).all fun p => o.contains p) = rr at *;generalize hby : o.contains y = by' at *
      have HBY := hide hby
      have HRR := hide hrr;clear hby hrr
      cases rr
      ·go_wp2_with fail
       go_roundw
       case rel =>
        refine ⟨j + 1, by simp, hjl, ?_, by first | rfl | trivial⟩;rw [zu HAT, ← Bool.and_assoc, zu HRR]
        first | rfl | simp
       case measure => simp only [intOf]; omega
      ·go_wp2_with fail
       go_roundw
       case rel =>
        refine ⟨j + 1, by simp, hjl, ?_, by first | rfl | trivial⟩;rw [zu HAT, ← Bool.and_assoc, zu HRR]
        first | rfl | simp
       case measure => simp only [intOf]; omega
     ·have t1 : ¬ (j : Int) < (l.length : Int) := by omega
      have tz : decide ((j : Int) < (l.length : Int)) = false := df t1;have hjl' : l.take j = l := List.take_of_length_le (by omega);rw [hjl'];have hrd := zu HRD;generalize hrr : (!b0 && l.all fun p => o.contains p) = rr at *
      by_cases hq2 : i = q
      ·have hrt : rr = true := by
        rw [← hrd, hq2];have := zu HQ;unfold ff at this;rw [List.find?_range_eq_some] at this;exact this.1
       subst hrt;subst hq2;have fz : ∀ z, W1.frozen? ⟨w.heap.size + 1, z, none⟩ = false := (zu HV).frozen;have HV2 := hide ((zu HV).set i (.bool true));rw [bl_set (by omega)] at HV2;have HR2 := hide ((zu HR).kept' (w' := W1.setCell ⟨w.heap.size + 1, i, none⟩ (.bool true)) (fun g hg => Below.heap_setCell _ _ _ _ (by intro e; subst e; exact zu HOB hg)));have HW2 := hide (Below.setCell (zu HW) (p := ⟨w.heap.size + 1, i, none⟩) (by simp) (.bool true));have HU2 := hide HU1;clear hrd hrr hjl'
       go_wp2_with (at_builtin; refine zu ?_)
       refine hide ?_;have HSZ := hide (show (W1.setCell ⟨w.heap.size + 1, i, none⟩ (.bool true)).heap.size = W1.heap.size by simp [World.setCell]);generalize W1.setCell ⟨w.heap.size + 1, i, none⟩ (.bool true) = W2 at *;refine wpList_append_new _ rfl _ _ 94 rfl w.heap.size 3 i0 _ 1 8 Tryz.underlying94 hi hz0 hz1 hz2 rfl (by decide) _ _ _ rfl ((zu HR2).alloc _) _ 1 1 ([(i : Int)].map (Value.int .i64)) rfl rfl (by first | exact news_cells _ _ (zu HSZ).symm | exact news_cells _ _ rfl) ints_one (by unfold maxLen; omega) (by omega) (Nat.le_trans (zu HW2).size (by simp)) ?_
       intro v' w1 hown' hgrow _ hnew;have R := hide (own_more (wr := W2) (news := [(i : Int)]) ((bfl w.heap.size W2).alloc (zu HW2).size _) (Nat.le_trans (zu HW2).size (by simp)) (zu HR2) hown' hgrow)
       have hob2 : v'.ownBlock ≠ some (w.heap.size + 1) := by
        intro e
        rcases hnew _ e with h1 | h1
        ·exact zu HOB h1
        ·have := (zu HV2).lt
         simp at h1;omega
       have HV3 := hide ((zu HV2).bel ((bfl _ _).alloc (Nat.le_refl _) (.cells #[.int .i64 (i : Int)] 3)));have HV4 : Hid (vb w1 (w.heap.size + 1) 4 (bl n (o ++ [i]))) := hide ((hgrow.block _ (by have := (zu HV2).lt; simp; omega) (by intro e; exact zu HOB e.symm)).trans (zu HV3));clear hown' hgrow hnew;go_wp2_with fail;obtain ⟨uv', cap', rfl, _⟩ := (zu R).1.form;go_roundw
       case rel =>
        refine ⟨m + 1, by omega, ?_, ?_, hob2, ?_, (zu HW2).trans ((zu R).2)⟩
        ·rw [wo_some (by rw [zu HO2]; exact zu HQ), zu HO2]
         simp [zu HML]
        ·rw [wo_some (by rw [zu HO2]; exact zu HQ), zu HO2]
         have := (zu R).1
         simpa [nats] using this
        ·rw [wo_some (by rw [zu HO2]; exact zu HQ), zu HO2]
         exact zu HV4
       case measure => simp only; omega
      ·have hrf : rr = false := by rw [← hrd]; exact zu Q4 i (by omega)
       subst hrf;clear hrd hrr hjl';go_wp2_with fail;go_roundw
       case rel => exact ⟨rfl, i + 1, by simp, by omega, by first | rfl | trivial⟩
       case measure => simp only [intOf]; omega
  ·have m1 : ¬ (m : Int) < (n : Int) := by omega
   have mz : decide ((m : Int) < (n : Int)) = false := df m1;have en : m = n := by omega
   subst en;go_wp2_with fail;go_ret;refine ⟨_, rfl, ?_, zu HW⟩;have h1 := zu HR;unfold ord;rw [zu HL];exact h1
structure Fine (fs : List Ft) : Prop where
 len : fs.length ≤ 30
 right : ∀ f ∈ fs, ftr f = true
 names : ∀ f ∈ fs, wrg fs f = none
 once : twi fs = none
 all : (ord (nms fs)).length = fs.length
 one : Oneful (nms fs)
theorem nms_len (fs : List Ft) : (nms fs).length = fs.length := by simp [nms]
theorem Chk.zero {fs : List Ft} {ab : List ByteArray} (h : Chk fs 0 ab) : Fine fs ∧ ab = [] := by
 unfold Chk at h
 split at h
 ·cases h.1
 rename_i e1
 split at h
 ·cases h.1
 rename_i e2
 split at h
 ·cases h.1
 rename_i e3
 split at h
 ·cases h.1
 rename_i e4
 split at h
 ·cases h.1
 rename_i e5
 obtain ⟨b, hb, rfl, hc⟩ := h
 have hb0 : b = [] := by
  by_cases e : b = []
  ·exact e
  ·rw [if_neg e] at hc; cases hc
 have hr : ∀ f ∈ fs, ftr f = true := fun f hf => by simpa using find_not e3 hf
 have hw : ∀ f ∈ fs, wrg fs f = none := fun f hf => by simpa using find_not e5 hf
 have ho := nms_one hr hw;refine ⟨⟨by omega, hr, hw, e4, ?_, ho⟩, by rw [hb0]; rfl⟩;have := (ord_all ho (by rw [nms_len]; exact hb)).1 hb0;rw [nms_len] at this;exact this
def nmOf (fs : List Ft) (i : Nat) : ByteArray := (fs.getD i ft0).nm
theorem strs_take {fs : List Ft} {l : List Nat} {j y : Nat} (h : l[j]? = some y) : strs ((l.take (j + 1)).map (nmOf fs)) = strs ((l.take j).map (nmOf fs)) ++ strs [nmOf fs y] := by
 rw [List.take_add_one, h];simp [strs]
open Go.ChangeShapes Go.WideShapes Go.ChangeAt Go.RowKit Go.Maps Go.WideMaps
def lstep (nm : List (List Nat)) (G : List Nat) (k : Nat) : List Nat := if G.contains k || (nm.getD k []).any (fun p => G.contains p) then G ++ [k] else G
def lft (nm : List (List Nat)) (S P : List Nat) : List Nat := P.foldl (lstep nm) S
theorem lft_snoc (nm : List (List Nat)) (S P : List Nat) (k : Nat) : lft nm S (P ++ [k]) = lstep nm (lft nm S P) k := by simp [lft, List.foldl_append]
theorem bl_ext {n : Nat} {o o' : List Nat} (h : ∀ i, i < n → o.contains i = o'.contains i) : bl n o = bl n o' := by
 apply List.ext_getElem?;intro j
 by_cases hj : j < n
 ·rw [bl_at hj, bl_at hj, h j hj]
 ·rw [List.getElem?_eq_none (by rw [bl_len]; omega), List.getElem?_eq_none (by rw [bl_len]; omega)]
theorem bl_same {n : Nat} {o : List Nat} {i : Nat} (h : i < n) : (bl n o).set i (.bool (o.contains i)) = bl n o := by
 apply List.ext_getElem?;intro j;rw [List.getElem?_set]
 split
 ·rename_i e
  subst e;rw [if_pos (by rw [bl_len]; exact h), bl_at h]
 ·rfl
theorem contains_snoc (o : List Nat) (i j : Nat) : (o ++ [i]).contains j = (o.contains j || (j == i)) := by
 rw [Bool.eq_iff_iff];simp
theorem lstep_has (nm : List (List Nat)) (G : List Nat) (k j : Nat) : (lstep nm G k).contains j = (G.contains j || ((j == k) && (nm.getD k []).any (fun p => G.contains p))) := by
 unfold lstep
 by_cases hk : G.contains k = true
 ·rw [if_pos (by rw [hk]; rfl), contains_snoc]
  by_cases e : j = k
  ·subst e; rw [hk]; simp
  ·have : (j == k) = false := by simpa using e
   rw [this]; simp
 ·have hk : G.contains k = false := by simpa using hk
  cases ha : (nm.getD k []).any (fun p => G.contains p)
  ·rw [if_neg (by rw [hk]; simp)]; simp
  ·rw [if_pos (by rw [hk]; rfl), contains_snoc]; simp
def mgo (nm : List (List Nat)) (sd : Nat → Bool) (G : List Nat) (k : Nat) : List Nat := if sd k || (nm.getD k []).any (fun p => G.contains p) then G ++ [k] else G
def mrk (nm : List (List Nat)) (sd : Nat → Bool) (P : List Nat) : List Nat := P.foldl (mgo nm sd) []
theorem mrk_snoc (nm : List (List Nat)) (sd : Nat → Bool) (P : List Nat) (k : Nat) : mrk nm sd (P ++ [k]) = mgo nm sd (mrk nm sd P) k := by simp [mrk, List.foldl_append]
theorem marks_one {nm : List (List Nat)} (ho : Oneful nm) (S : List Nat) (sd : Nat → Bool) (hsd : ∀ k, k < nm.length → S.contains k = sd k) (m : Nat) :
  (∀ x ∈ mrk nm sd (wo nm m), x ∈ wo nm m) ∧ (∀ j, j ∈ wo nm m → (lft nm S (wo nm m)).contains j = (mrk nm sd (wo nm m)).contains j) ∧ (∀ j, j ∉ wo nm m → (lft nm S (wo nm m)).contains j = S.contains j) ∧ mrk nm sd (wo nm m) = (wo nm m).filter (fun j => (mrk nm sd (wo nm m)).contains j) := by
 induction m with
 | zero => exact ⟨by simp [wo, mrk], by simp [wo], by simp [wo, lft], by simp [wo, mrk]⟩
 | succ m ih =>
  obtain ⟨i1, i2, i3, i4⟩ := ih
  cases h : ff nm (wo nm m) with
  | none => rw [wo_none h (m + 1) (by omega)]; exact ⟨i1, i2, i3, i4⟩
  | some k =>
   obtain ⟨hk, hkn, hkp, _⟩ := ff_some h;rw [wo_some h, mrk_snoc, lft_snoc];generalize hM : mrk nm sd (wo nm m) = M at *;generalize hG : lft nm S (wo nm m) = G at *;generalize wo nm m = P at *
   have hany : (nm.getD k []).any (fun p => G.contains p) = (nm.getD k []).any (fun p => M.contains p) := by
    rw [Bool.eq_iff_iff, List.any_eq_true, List.any_eq_true];constructor
    ·rintro ⟨p, hp, h1⟩; exact ⟨p, hp, by rw [← i2 p (hkp p hp)]; exact h1⟩
    ·rintro ⟨p, hp, h1⟩; exact ⟨p, hp, by rw [i2 p (hkp p hp)]; exact h1⟩
   have hGk : G.contains k = sd k := by rw [i3 k hkn, hsd k hk]
   have hMk : M.contains k = false := by
    cases e : M.contains k with
    | false => rfl
    | true => exact (hkn (i1 k (by simpa using e))).elim
   have hmg : ∀ j, (mgo nm sd M k).contains j = (M.contains j || ((j == k) && (sd k || (nm.getD k []).any fun p => M.contains p))) := by
    intro j;unfold mgo
    cases e : (sd k || (nm.getD k []).any fun p => M.contains p)
    ·rw [if_neg (by simp)]; simp
    ·rw [if_pos rfl, contains_snoc]; simp
   have hne : ∀ j, j ∈ P → (j == k) = false := by
    intro j hj;rw [beq_eq_false_iff_ne];intro e;subst e;exact hkn hj
   refine ⟨?_, ?_, ?_, ?_⟩
   ·intro x hx
    unfold mgo at hx
    split at hx
    ·rcases List.mem_append.1 hx with e | e
     ·exact List.mem_append.2 (.inl (i1 x e))
     ·exact List.mem_append.2 (.inr e)
    ·exact List.mem_append.2 (.inl (i1 x hx))
   ·intro j hj
    rw [lstep_has, hmg, hany]
    rcases List.mem_append.1 hj with e | e
    ·rw [hne j e, i2 j e]; simp
    ·simp only [List.mem_singleton] at e
     subst e;rw [hGk, hMk];simp
   ·intro j hj
    have h1 : j ∉ P := fun e => hj (List.mem_append.2 (.inl e))
    have h2 : (j == k) = false := by
     rw [beq_eq_false_iff_ne];intro e;exact hj (List.mem_append.2 (.inr (by simp [e])))
    rw [lstep_has, h2, i3 j h1];simp
   ·have hf : P.filter (fun j => (mgo nm sd M k).contains j) = M := by
     conv => rhs; rw [i4]
     apply List.filter_congr;intro j hj;rw [hmg, hne j hj];simp
    rw [List.filter_append, hf];unfold mgo
    cases e : (sd k || (nm.getD k []).any fun p => M.contains p)
    ·have h9 := hmg k
     rw [hMk, e] at h9;unfold mgo at h9;rw [e] at h9;simp only [Bool.false_eq_true, if_false] at h9 ⊢;simp [List.filter_cons]
     simpa using hMk
    ·simp [List.filter_cons, contains_snoc]
theorem MapOf.look1 {w : World} {b k : Nat} {fs : List Ft} (h : MapOf w b fs k) (hk : k ≤ fs.length) (hu : ∀ (j : Nat) (g : Ft), j < k → fs[j]? = some g → findN (fs.take j) g.nm = none) (s : ByteArray) (hs : s.size ≤ maxLen) :
  (Instr.lookup 82 (.map (some b)) (.string s) false).run Tryz.prog w = .ok (.int .i64 (findZ (fs.take k) s)) w := by
 obtain ⟨v, ps, hrun, hv⟩ := World.ownsMap.lookup (t := 82) (e := 3) h lawK Tryz.underlying82 (zero3 w) (zd := .lit (.int .i64 0)) (zp := []) (plainElem_int Tryz.underlying3 (by decide)) (key := .string s) (kl := keyL s) (keyOf_string_mk Tryz.underlying9 hs);obtain ⟨c, rfl, hc, _⟩ := plainElem_int_inv Tryz.underlying3 hv;have hc' := congrArg Prod.fst hc;simp only at hc';rw [Dn_at fs s _ k hk hu] at hc';rw [hrun]
 have : c = findZ (fs.take k) s := by
  unfold findZ
  cases e : findN (fs.take k) s with
  | none => rw [e] at hc'; simp only [DataW.lit.injEq, Lit.int.injEq, true_and] at hc'; exact hc'.symm
  | some i => rw [e] at hc'; simp only [DataW.lit.injEq, Lit.int.injEq, true_and] at hc'; exact hc'.symm
 rw [this]
def nz (st : List Nat) : Nat := st.countP fun x => decide (0 < x)
theorem nz_le (st : List Nat) : nz st ≤ st.length := List.countP_le_length
theorem nz_set {st : List Nat} {m L : Nat} (h : st[m]? = some 0) (hL : 0 < L) : nz (st.set m L) = nz st + 1 := by
 unfold nz
 induction st generalizing m with
 | nil => cases h
 | cons x st ih =>
  cases m with
  | zero =>
   simp only [List.getElem?_cons_zero, Option.some.injEq] at h;subst h;simp [hL]
  | succ m =>
   have := ih (m := m) (by simpa using h);simp only [List.set_cons_succ, List.countP_cons, this];omega
def pos (st : List Nat) (m : Nat) : Prop := ∃ L, st[m]? = some L ∧ 0 < L
theorem pos_set {st : List Nat} {m k L : Nat} (h : pos st k) (hL : 0 < L) : pos (st.set m L) k := by
 obtain ⟨M, h1, h2⟩ := h
 by_cases e : m = k
 ·subst e
  exact ⟨L, by rw [List.getElem?_set, if_pos rfl, if_pos (List.getElem?_eq_some_iff.1 h1).1], hL⟩
 ·exact ⟨M, by rw [List.getElem?_set, if_neg e]; exact h1, h2⟩
theorem pos_here {st : List Nat} {m L : Nat} (h : m < st.length) (hL : 0 < L) : pos (st.set m L) m := ⟨L, by rw [List.getElem?_set, if_pos rfl, if_pos h], hL⟩
structure StI (s : Nat → Option Nat) (n goal : Nat) (st rch : List Nat) (a : Nat) : Prop where
 len : st.length = n
 sound : ∀ m L, st[m]? = some L → 0 < L → First s m goal L
 first : rch[0]? = some goal
 lt : ∀ r ∈ rch, r < n
 rc : ∀ (j r : Nat), 0 < j → rch[j]? = some r → pos st r
 cover : ∀ m, pos st m → m ∈ rch
 looked : ∀ (j r : Nat), j < a → rch[j]? = some r → ∀ m, m < n → s m = some r → pos st m
 cnt : rch.length = 1 + nz st
 al : a ≤ rch.length
theorem StI.start {s : Nat → Option Nat} {n goal : Nat} (h : goal < n) : StI s n goal (List.replicate n 0) [goal] 0 := by
 refine ⟨by simp, ?_, rfl, by simpa using h, ?_, ?_, fun j r hj => by omega, ?_, by simp⟩
 ·intro m L h1 h2
  rw [List.getElem?_replicate] at h1
  split at h1 <;> cases h1
  omega
 ·intro j r hj h1
  rw [List.getElem?_eq_none (by simp; omega)] at h1
  cases h1
 ·rintro m ⟨L, h1, h2⟩
  rw [List.getElem?_replicate] at h1
  split at h1 <;> cases h1
  omega
 ·simp [nz, List.countP_replicate]
theorem StI.le {s : Nat → Option Nat} {n goal a : Nat} {st rch : List Nat} (h : StI s n goal st rch a) : rch.length ≤ n + 1 := by
 have := nz_le st;have := h.cnt;have := h.len;omega
theorem StI.key {s : Nat → Option Nat} {n goal a r : Nat} {st rch : List Nat} (h : StI s n goal st rch a) (hr : rch[a]? = some r) (hz : a = 0 → nz st = 0) {d : Nat} (hd : st[r]? = some d) :
  ∀ m, m < n → s m = some r → st[m]? = some 0 → First s m goal (d + 1) := by
 intro m hm hs h0
 by_cases e : r = goal
 ·subst e
  by_cases ea : a = 0
  ·have hd0 : d = 0 := by
    rcases Nat.eq_zero_or_pos d with g | g
    ·exact g
    ·exfalso
     have h1 := hz ea;unfold nz at h1;rw [List.countP_eq_zero] at h1;have := h1 d (List.mem_of_getElem? hd);simp at this;omega
   rw [hd0];exact First.one hs
  ·exfalso
   obtain ⟨L, h1, h2⟩ := h.looked 0 r (by omega) h.first m hm hs
   rw [h0] at h1
   cases h1
   omega
 ·have ha : 0 < a := by
   rcases Nat.eq_zero_or_pos a with g | g
   ·subst g
    rw [h.first] at hr
    cases hr
    exact (e rfl).elim
   ·exact g
  obtain ⟨L, h1, h2⟩ := h.rc a r ha hr;rw [hd] at h1
  cases h1
  exact First.more hs e (h.sound r d hd h2)
theorem StI.put {s : Nat → Option Nat} {n goal a m fu : Nat} {st rch : List Nat} (h : StI s n goal st rch a) (hm : m < n) (h0 : st[m]? = some 0) (hfu : 0 < fu) (hF : First s m goal fu) : StI s n goal (st.set m fu) (rch ++ [m]) a := by
 have hml : m < st.length := by rw [h.len]; exact hm
 refine ⟨by rw [List.length_set]; exact h.len, ?_, ?_, ?_, ?_, ?_, ?_, ?_, by have := h.al; simp; omega⟩
 ·intro k L h1 h2
  rw [List.getElem?_set] at h1
  split at h1
  ·rename_i e
   subst e
   cases h1
   exact hF
  ·exact h.sound k L h1 h2
 ·rw [List.getElem?_append_left (by have := (List.getElem?_eq_some_iff.1 h.first).1; exact this)]
  exact h.first
 ·intro r hr
  rcases List.mem_append.1 hr with g | g
  ·exact h.lt r g
  ·simp at g; omega
 ·intro j r hj hr
  by_cases hjl : j < rch.length
  ·rw [List.getElem?_append_left hjl] at hr
   exact pos_set (h.rc j r hj hr) hfu
  ·rw [List.getElem?_append_right (by omega)] at hr
   have : j - rch.length = 0 := by
    rcases Nat.eq_zero_or_pos (j - rch.length) with g | g
    ·exact g
    ·rw [List.getElem?_eq_none (by simp; omega)] at hr; cases hr
   rw [this] at hr
   cases hr
   exact pos_here hml hfu
 ·intro k hk
  by_cases e : k = m
  ·subst e; simp
  ·obtain ⟨L, h1, h2⟩ := hk
   rw [List.getElem?_set, if_neg (by omega)] at h1;exact List.mem_append.2 (.inl (h.cover k ⟨L, h1, h2⟩))
 ·intro j r hj hr k hk hs
  have hjl : j < rch.length ∨ ¬ j < rch.length := by omega
  rcases hjl with g | g
  ·rw [List.getElem?_append_left g] at hr
   exact pos_set (h.looked j r hj hr k hk hs) hfu
  ·exfalso
   have := h.al;omega
 ·rw [nz_set h0 hfu]
  have := h.cnt;simp;omega
theorem StI.next {s : Nat → Option Nat} {n goal a r : Nat} {st rch : List Nat} (h : StI s n goal st rch a) (hr : rch[a]? = some r) (hl : ∀ m, m < n → s m = some r → pos st m) : StI s n goal st rch (a + 1) := by
 refine ⟨h.len, h.sound, h.first, h.lt, h.rc, h.cover, ?_, h.cnt, (List.getElem?_eq_some_iff.1 hr).1⟩;intro j q hj hq m hm hs
 by_cases e : j = a
 ·subst e
  rw [hr] at hq
  cases hq
  exact hl m hm hs
 ·exact h.looked j q (by omega) hq m hm hs
theorem StI.all {s : Nat → Option Nat} {n goal : Nat} {st rch : List Nat} (h : StI s n goal st rch rch.length) (hs : ∀ m p, s m = some p → m < n) : ∀ L m, First s m goal L → pos st m := by
 intro L
 induction L using Nat.strongRecOn with
 | _ L ih =>
  intro m f
  cases e : s m with
  | none => exact (f.no e).elim
  | some r =>
   have hin : r ∈ rch := by
    rcases f.back e with ⟨e1, _⟩ | ⟨_, h1, g⟩
    ·subst e1
     exact List.mem_of_getElem? h.first
    ·exact h.cover r (ih (L - 1) (by omega) r g)
   obtain ⟨j, hj, e2⟩ := List.getElem_of_mem hin;exact h.looked j r hj (by rw [List.getElem?_eq_getElem hj, e2]) m (hs m r e) e
theorem First.le {nm : List (List Nat)} (ho : Oneful nm) {i j L : Nat} (f : First (sc nm) i j L) : L ≤ nm.length := by
 have hp : ∀ t, t < L → ∃ p, it (sc nm) t i = some p ∧ p < nm.length := by
  intro t ht;obtain ⟨p, h1, g⟩ := f.rest ht;refine ⟨p, h1, ?_⟩
  cases e : sc nm p with
  | none => exact (g.no e).elim
  | some q => exact (sc_lt ho e).1
 rcases Nat.lt_or_ge nm.length L with g | g
 ·exfalso
  obtain ⟨a, b, h1, h2, h3⟩ := pigeon nm.length (fun t => (it (sc nm) t i).getD 0) (by
   intro t ht;obtain ⟨p, e, h⟩ := hp t (by omega);simp only [e, Option.getD_some]
   exact h)
  obtain ⟨p, e1, fp⟩ := f.rest (show a < L by omega);obtain ⟨q, e2, fq⟩ := f.rest (show b < L by omega);simp only [e1, e2, Option.getD_some] at h3;subst h3;have := fp.uniq fq;omega
 ·exact g
end Go.Proofs.YtkiplmabjeadgaaGreat
