/- A slice of texts that came in, opened. -/
import Derived.Test.YtkiplmabjeadgaaGreatBpBmQ
import Derived.Test.YtkiplmabjeadgaaGreatRhPQ
import Derived.Test.YtkiplmabjeadgaaGreatFtOpenQ
import Derived.Test.YtkiplmabjeadgaaGreatMkTextQ
import Derived.Test.YtkiplmabjeadgaaGreatBpR3Q
import Derived.Test.YtkiplmabjeadgaaGreatSe15Q
import Derived.Test.YtkiplmabjeadgaaGreatFdMQ
import Derived.Deep.Strs
namespace Go.Proofs.YtkiplmabjeadgaaGreat
set_option maxRecDepth 100000
set_option maxHeartbeats 16000000
open Go.ChangeShapes Go.WideShapes Go.ChangeAt Go.RowKit Go.Maps Go.WideMaps
set_option linter.unusedVariables false
set_option linter.unusedSimpArgs false
def RoAns (u : Option Addr) (n cu : Nat) (fs : List Ft) (off : List ByteArray) (w : World) (e : Ending) (w' : World) : Prop :=
 (∃ h0 h1 h2 h3 c v3 ab, e = .returned (.tuple #[.agg #[h0, h1, h2, h3], .int .i64 c, v3]) ∧ SRow w' w.heap.size v3 ab ∧ (∀ v ∈ [h0, h1, h2, h3], v.oneCell' = true) ∧
  ((c ≠ 0 ∧ Bu fs off c ab none) ∨ (c = 0 ∧ ab = [] ∧ ¬ 4096 < off.length ∧ Chk fs 0 [] ∧ (∀ s ∈ off, findN fs s ≠ none) ∧
   ∃ b ua c3 ub c4, h0 = .slice u n cu ∧ h1 = .map (some b) ∧ h2 = .slice ua n c3 ∧ h3 = .slice ub n c4 ∧ MapOf w' b fs n ∧ NmAt w' ua (nms fs) ∧ Inn w' (.slice ub n c4) (ord (nms fs))))) ∧ Below w.heap.size w w'
theorem row_ne (W : World) {g g' : Nat} (cs : Array Value) (h : g ≠ g') : (W.setRow g' cs).heap[g]? = W.heap[g]? := by
 show (W.heap.modify g' _)[g]? = _
 rw [Array.getElem?_modify, if_neg (fun e => h e.symm)]
theorem SRow.row {W : World} {B g' : Nat} {v : Value} {l : List ByteArray} (h : SRow W B v l) (cs : Array Value) (hg : g' < B) : SRow (W.setRow g' cs) B v l :=
 own_kept h fun g hq => row_ne W cs (by have := own_ge h g hq; omega)
theorem info135 : (Tryz.prog.info? 135).map (·.size) = some 4 := by kernel_rfl
theorem readOff_any (u : Option Addr) (p po n cu : Nat) (fs : List Ft) (uf : Option Addr) (mf cf : Nat) (off : List ByteArray) (w : World) (hl : fs.length = n) (hn : n ≤ 1048576) (hs : ∀ f ∈ fs, f.nm.size ≤ maxLen ∧ f.on.size ≤ maxLen ∧ f.ov.size ≤ maxLen) (hu : SlG ftc 15 w u p po fs)
  (hof : off.length = mf) (hmf : mf ≤ 1048576) (hos : ∀ s ∈ off, s.size ≤ maxLen) (hst : StAt w uf off) :
  Calls Tryz.prog 83 #[.slice u n cu, .slice uf mf cf] w (RoAns u n cu fs off w) := by
 have HR0 := hide (vb_new w 135 [.slice none 0 0, .map none, .slice none 0 0, .slice none 0 0] _ rfl)
 by_cases hlong : 4096 < mf
 ·have d1 : decide ((4096 : Int) < (mf : Int)) = true := dt (by omega)
  have hbu : Bu fs off 2 [] none := by unfold Bu; rw [if_pos (by omega)]; exact ⟨rfl, rfl, rfl⟩
  have HD := hide hbu;clear hu hs hbu hst hos hof;have HI := hide info135;have HO : Hid (∀ v ∈ [Value.slice none 0 0, .map none, .slice none 0 0, .slice none 0 0], v.oneCell' = true) := hide (by simp [Value.oneCell']);go_enter Tryz.func83, Tryz.ntmps83
  go_wp2_with (refine wpl_storeRow rfl 135 _ _ rfl w.heap.size [.slice none 0 0, .map none, .slice none 0 0, .slice none 0 0] rfl rfl 135 _ (zu HR0) (zu HI) rfl (zu HO) ?_)
  have h4 := vb_row (zu HR0) [.slice none 0 0, .map none, .slice none 0 0, .slice none 0 0];have z0 := h4.cell (m := 0) rfl;have z1 := h4.cell (m := 1) rfl;have z2 := h4.cell (m := 2) rfl;have z3 := h4.cell (m := 3) rfl
  have HE := hide (show RoAns u n cu fs off w (.returned (.tuple #[.agg #[.slice none 0 0, .map none, .slice none 0 0, .slice none 0 0], .int .i64 2, .slice none 0 0])) ((w.alloc (.cells #[.slice none 0 0, .map none, .slice none 0 0, .slice none 0 0] 135)).setRow w.heap.size [Value.slice none 0 0, .map none, .slice none 0 0, .slice none 0 0].toArray) from
    ⟨⟨_, _, _, _, _, _, [], rfl, own_nil _ _ _ _, by simp [Value.oneCell'], .inl ⟨by decide, zu HD⟩⟩, bel_row (ba (bfl _ _) _) (Nat.le_refl _) _⟩)
  clear h4;refine bodyPost_ret (v := .tuple #[.agg #[.slice none 0 0, .map none, .slice none 0 0, .slice none 0 0], .int .i64 2, .slice none 0 0]) (by simp [results, Tryz.results83, go_sem, z0, z1, z2, z3]; done) rfl ?_;exact zu HE
 have d1 : decide ((4096 : Int) < (mf : Int)) = false := df (by omega);have hbA := ba (bfl w.heap.size w) (.cells #[.slice none 0 0, .map none, .slice none 0 0, .slice none 0 0] 135);have HRD := hide (readP_any u p po n cu fs _ hl hn hs (hu.bel hbA));have HBA := hide hbA;have HU := hide hu;have HL := hide hl;have HST := hide hst;have HOF := hide hof;have HOS := hide hos;have HLG := hide (show ¬ 4096 < off.length by omega);clear hu hl hs hst hof hos hbA;go_enter Tryz.func83, Tryz.ntmps83;go_wp2_with fail;refine (zu HRD).mono ?_
 rintro e W1 ⟨⟨b, ua, n3, c3, ub, n4, c4, c, v3, ab, rfl, hck, hsr, hok⟩, hb⟩;have hR1 := (zu HR0).bel hb;have HB := hide (bc (zu HBA) hb);obtain ⟨us, cs, rfl, _⟩ := own_form hsr;have HI := hide info135
 have hHo : (#[.slice u n cu, .map (some b), .slice ua n3 c3, .slice ub n4 c4] : Array Value).all (·.oneCell') = true := by simp [Value.oneCell']
 have HO := hide hHo;have HOL : Hid (∀ v ∈ [Value.slice u n cu, .map (some b), .slice ua n3 c3, .slice ub n4 c4], v.oneCell' = true) := hide (by simp [Value.oneCell']);have HVH := hide (vb_new W1 135 [.slice u n cu, .map (some b), .slice ua n3 c3, .slice ub n4 c4] _ rfl);have HB2 := hide (ba (zu HB) (.cells #[.slice u n cu, .map (some b), .slice ua n3 c3, .slice ub n4 c4] 135));have hbH := ba (bfl W1.heap.size W1) (.cells #[.slice u n cu, .map (some b), .slice ua n3 c3, .slice ub n4 c4] 135);have HR2 := hide (hR1.bel hbH);have HS2 := hide (hsr.bel hbH);have HCK := hide hck
 have HOK : Hid (c = 0 → _) := hide hok;have k0 := (zu HVH).cell (m := 0) rfl;have k1 := (zu HVH).cell (m := 1) rfl;have k2 := (zu HVH).cell (m := 2) rfl;have k3 := (zu HVH).cell (m := 3) rfl;have hwW : w.heap.size < W1.heap.size := hR1.lt;clear hb hR1 hsr hck hok hbH HRD hHo
 by_cases hc : c = 0
 rotate_left
 ·have hc' : (c == 0) = false := by simpa using hc
  have hbu : Bu fs off c ab none := by unfold Bu; rw [if_neg (zu HLG)]; exact ⟨c, ab, zu HCK, .inl ⟨hc, rfl, rfl, rfl⟩⟩
  have HD := hide hbu;clear hbu
  have hE : RoAns u n cu fs off w (.returned (.tuple #[.agg #[.slice u n cu, .map (some b), .slice ua n3 c3, .slice ub n4 c4], .int .i64 c, .slice us ab.length cs])) ((W1.alloc (.cells #[.slice u n cu, .map (some b), .slice ua n3 c3, .slice ub n4 c4] 135)).setRow w.heap.size [Value.slice u n cu, .map (some b), .slice ua n3 c3, .slice ub n4 c4].toArray) := by
   refine ⟨⟨_, _, _, _, _, _, ab, rfl, ?_, zu HOL, .inl ⟨hc, zu HD⟩⟩, bel_row (zu HB2) (Nat.le_refl _) _⟩;exact ((zu HS2).row _ (by simp)).mono (by simp)
  have HE := hide hE;clear hE hc
  go_wp2_with (first | refine wpl_putNew rfl 135 _ _ rfl W1 _ #[.slice u n cu, .map (some b), .slice ua n3 c3, .slice ub n4 c4] 135 rfl rfl (zu HI) rfl (zu HO) ?_ | refine wpl_storeRow rfl 135 _ _ rfl w.heap.size [.slice u n cu, .map (some b), .slice ua n3 c3, .slice ub n4 c4] rfl rfl 135 _ (zu HR2) (zu HI) rfl (zu HOL) ?_)
  have h4 := vb_row (zu HR2) [.slice u n cu, .map (some b), .slice ua n3 c3, .slice ub n4 c4];have z0 := h4.cell (m := 0) rfl;have z1 := h4.cell (m := 1) rfl;have z2 := h4.cell (m := 2) rfl;have z3 := h4.cell (m := 3) rfl;clear h4;refine bodyPost_ret (v := .tuple #[.agg #[.slice u n cu, .map (some b), .slice ua n3 c3, .slice ub n4 c4], .int .i64 c, .slice us ab.length cs]) (by simp [results, Tryz.results83, go_sem, z0, z1, z2, z3]; done) rfl ?_;exact zu HE
 subst hc;obtain ⟨hfine, rfl⟩ := (zu HCK).zero;obtain ⟨hmo, hbb, ⟨N, hN, hhb⟩, hrw⟩ := zu HOK rfl;have hnm := hhb.nmS;have hon : (ord (nms fs)).length = n := by rw [hfine.all]; exact zu HL
 obtain ⟨uq, cq, e1, hna⟩ := hnm;have e1' := e1
 injection e1' with e2 e3 e4
 subst e2;rw [nms_len, zu HL] at e3;have e3s := e3.symm;subst e3s;have hin := Row.inn hrw;obtain ⟨uz, cz, e5, _⟩ := id hin;have e5' := e5
 injection e5' with e6 e7 e8
 rw [hon] at e7;have e7s := e7.symm;subst e7s;have hbH := ba (bfl W1.heap.size W1) (.cells #[.slice u n cu, .map (some b), .slice ua n c3, .slice ub n c4] 135);have HM2 := hide (hmo.bel hbH);have HA2 := hide (hhb.bel hbH);have HN2 := hide (show w.heap.size + 1 ≤ N by have := hN; simp at this; exact this);have HR5 := hide (own_bel (w' := W1.alloc (.cells #[.slice u n cu, .map (some b), .slice ua n c3, .slice ub n c4] 135)) hrw hbH);have HB5 := hide (show w.heap.size + 1 ≤ b by have := hbb; simp at this; exact this);have HI2 := hide (hin.bel hbH);have HSO := hide ((zu HST).bel (zu HB2))
 have HF := hide hfine;clear hfine hmo hbb hna hhb hN hrw hon hin e1 e4 e5 e6 e8 hbH
 go_wp2_with (refine wpl_putNew rfl 135 _ _ rfl W1 _ #[.slice u n cu, .map (some b), .slice ua n c3, .slice ub n c4] 135 rfl rfl (zu HI) rfl (zu HO) ?_)
 generalize hW2 : W1.alloc (.cells #[.slice u n cu, .map (some b), .slice ua n c3, .slice ub n c4] 135) = W2 at *;have hsz2 : W1.heap.size < W2.heap.size := by rw [← hW2, World.size_alloc]; omega
 clear hW2
 go_loopw [31] (fun s W => ∃ i : Nat, s = .int .i64 (i : Int) ∧ i ≤ mf ∧ (∀ (j : Nat) (t : ByteArray), j < i → off[j]? = some t → findN fs t ≠ none) ∧ W = W2) (fun s _ => mf - (intOf s).toNat)
 case atStart => exact ⟨0, rfl, Nat.zero_le _, fun j t h => absurd h (Nat.not_lt_zero _), rfl⟩
 case round =>
  obtain ⟨i, rfl, hi, hall, hw⟩ := hrel;subst hw;have HALL := hide hall;clear hall
  by_cases h : i < mf
  ·have iz : decide ((i : Int) < (mf : Int)) = true := dt (by omega)
   have i1 : (i : Int) < (mf : Int) := by omega
   have i0 : (0 : Int) ≤ (i : Int) := Int.natCast_nonneg _;have wi : IntKind.i64.wrap ((i : Int) + 1) = ((i + 1 : Nat) : Int) := (wrap_i (by omega) (by omega)).trans (by simp);obtain ⟨s, hx⟩ := get_some (zu HOF) h
   obtain ⟨fo, oo, rfl, _, hcs⟩ := (zu HSO) (by intro e; subst e; cases hx)
   have q0 := hcs i s hx;have HX := hide hx;have hlk := (zu HM2).look (by rw [zu HL]; exact Nat.le_refl _) (fun j g _ hg => twi_none' (zu HF).once j g hg) s (zu HOS s (List.mem_of_getElem? hx));rw [List.take_of_length_le (by rw [zu HL]; exact Nat.le_refl _)] at hlk;clear hcs hx
   cases hq : findN fs s with
   | some q =>
    rw [hq] at hlk;simp only [Option.isSome_some] at hlk;have HQ := hide (show findN fs s ≠ none by rw [hq]; simp);clear hq;go_wp2_with fail;go_roundw
    case rel =>
     refine ⟨i + 1, by simp, h, fun j t hj ht => ?_, by first | rfl | trivial⟩
     by_cases e : j = i
     ·subst e
      rw [zu HX] at ht
      cases ht
      exact zu HQ
     ·exact zu HALL j t (by omega) ht
    case measure => simp only [intOf]; omega
   | none =>
    rw [hq] at hlk;simp only [Option.isSome_none] at hlk;have hbu : Bu fs off 6 [s] none := by unfold Bu; rw [if_neg (zu HLG)]; exact ⟨0, [], zu HCK, .inr ⟨rfl, .inl ⟨i, s, zu HX, hq, zu HALL, rfl, rfl, rfl⟩⟩⟩
    have HD := hide hbu;clear hq hbu;have HR3 := hide ((zu HR2).bel (ba (bfl _ _) (.cells #[.string s] 9)))
    have hE : RoAns u n cu fs off w (.returned (.tuple #[.agg #[.slice u n cu, .map (some b), .slice ua n c3, .slice ub n c4], .int .i64 6, .slice (some ⟨wr.heap.size, 0, none⟩) 1 1])) ((wr.alloc (.cells #[.string s] 9)).setRow w.heap.size [Value.slice u n cu, .map (some b), .slice ua n c3, .slice ub n c4].toArray) := by
     refine ⟨⟨_, _, _, _, _, _, [s], rfl, ?_, zu HOL, .inl ⟨by decide, zu HD⟩⟩, bel_row (ba (zu HB2) _) (Nat.le_refl _) _⟩;refine (SRow.row (B := wr.heap.size) ?_ _ (by omega)).mono (by omega);exact vb.srow (l := [s]) (vb_new wr 9 (strs [s]) _ rfl) (Nat.le_refl _) (by simp)
    have HE := hide hE;clear hE
    go_wp2_with (refine wpl_storeRow rfl 135 _ _ rfl w.heap.size [.slice u n cu, .map (some b), .slice ua n c3, .slice ub n c4] rfl rfl 135 _ (zu HR3) (zu HI) rfl (zu HOL) ?_)
    have h4 := vb_row (zu HR3) [.slice u n cu, .map (some b), .slice ua n c3, .slice ub n c4];have z0 := h4.cell (m := 0) rfl;have z1 := h4.cell (m := 1) rfl;have z2 := h4.cell (m := 2) rfl;have z3 := h4.cell (m := 3) rfl;clear h4;refine bodyPost_ret (v := .tuple #[.agg #[.slice u n cu, .map (some b), .slice ua n c3, .slice ub n c4], .int .i64 6, .slice (some ⟨wr.heap.size, 0, none⟩) 1 1]) (by simp [results, Tryz.results83, go_sem, z0, z1, z2, z3]; done) rfl ?_;exact zu HE
  ·obtain rfl : mf = i := by omega
   have iz : decide ((mf : Int) < (mf : Int)) = false := df (by omega)
   have hallo : ∀ s ∈ off, findN fs s ≠ none := by
    intro s hs;obtain ⟨j, hj, rfl⟩ := List.getElem_of_mem hs;exact zu HALL j _ (by have := zu HOF; omega) (List.getElem?_eq_getElem hj)
   have hE : RoAns u n cu fs off w (.returned (.tuple #[.agg #[.slice u n cu, .map (some b), .slice ua n c3, .slice ub n c4], .int .i64 0, .slice none 0 0])) (wr.setRow w.heap.size [Value.slice u n cu, .map (some b), .slice ua n c3, .slice ub n c4].toArray) := by
    refine ⟨⟨_, _, _, _, _, _, [], rfl, own_nil _ _ _ _, zu HOL, .inr ⟨rfl, rfl, zu HLG, zu HCK, hallo, b, ua, c3, ub, c4, rfl, rfl, rfl, rfl, ?_, ?_, ?_⟩⟩, bel_row (zu HB2) (Nat.le_refl _) _⟩
    ·exact (zu HM2).blk (row_ne _ _ (by have := zu HB5; omega))
    ·have hx := (zu HA2).blk (w' := wr.setRow w.heap.size [Value.slice u n cu, .map (some b), .slice ua n c3, .slice ub n c4].toArray) (by simp [World.setRow]) (fun g hg => row_ne _ _ (by have := zu HN2; omega))
     obtain ⟨uy, cy, ey, hy⟩ := hx.nmS
     injection ey with ey1
     rw [← ey1] at hy;exact hy
    ·have hx := own_kept (zu HR5) (w' := wr.setRow w.heap.size [Value.slice u n cu, .map (some b), .slice ua n c3, .slice ub n c4].toArray) (fun g hg => row_ne _ _ (by have := (own_ge (zu HR5) g hg).1; simp at this; omega))
     exact Row.inn hx
   have HE := hide hE;clear hE hallo
   go_wp2_with (refine wpl_storeRow rfl 135 _ _ rfl w.heap.size [.slice u n cu, .map (some b), .slice ua n c3, .slice ub n c4] rfl rfl 135 _ (zu HR2) (zu HI) rfl (zu HOL) ?_)
   have h4 := vb_row (zu HR2) [.slice u n cu, .map (some b), .slice ua n c3, .slice ub n c4];have z0 := h4.cell (m := 0) rfl;have z1 := h4.cell (m := 1) rfl;have z2 := h4.cell (m := 2) rfl;have z3 := h4.cell (m := 3) rfl;clear h4;refine bodyPost_ret (v := .tuple #[.agg #[.slice u n cu, .map (some b), .slice ua n c3, .slice ub n c4], .int .i64 0, .slice none 0 0]) (by simp [results, Tryz.results83, go_sem, z0, z1, z2, z3]; done) rfl ?_;exact zu HE
theorem left_lf {fs : List Ft} {off : List ByteArray} (hF : Fine fs) (hall : ∀ s ∈ off, findN fs s ≠ none) {k : Nat} (hk : k < fs.length) :
  (lft (nms fs) (sdN fs off) (ord (nms fs))).contains k = lf fs off k := by
 have hsd : ∀ q, q < (nms fs).length → (sdN fs off).contains q = sdB fs off q := by
  intro q hq;rw [nms_len] at hq;have hx : fs[q]? = some fs[q] := List.getElem?_eq_getElem hq;have hg : fs.getD q ft0 = fs[q] := getD_at hx;unfold sdB;rw [hg, Bool.eq_iff_iff];constructor
  ·intro h
   unfold sdN at h;rw [List.contains_iff_mem, List.mem_map] at h;obtain ⟨s, hs, e⟩ := h
   cases hn : findN fs s with
   | none => exact (hall s hs hn).elim
   | some j =>
    rw [hn, Option.getD_some] at e;subst e;obtain ⟨g, h1, h2⟩ := findN_at hn;rw [hx] at h1
    cases h1
    obtain ⟨i, hi, rfl⟩ := List.getElem_of_mem hs;refine hasT_yes (List.getElem?_eq_getElem hi) ?_;rw [h2];exact sEq_refl _
  ·intro h
   unfold hasT at h;rw [List.any_eq_true] at h;obtain ⟨s, hs, e⟩ := h;unfold sdN;rw [List.contains_iff_mem, List.mem_map];refine ⟨s, hs, ?_⟩
   cases hn : findN fs s with
   | none => exact (hall s hs hn).elim
   | some j =>
    obtain ⟨g, h1, h2⟩ := findN_at hn;rw [Option.getD_some];exact hF.uniq h1 hx (h2.trans (sEq_iff.1 e))
 obtain ⟨_, h2, _, _⟩ := marks_one hF.one (sdN fs off) (sdB fs off) hsd (nms fs).length
 have hmem : k ∈ wo (nms fs) (nms fs).length := by
  have hall : ∀ q, q < (nms fs).length → q ∈ ord (nms fs) := by
   intro q hq
   by_cases e : q ∈ ord (nms fs)
   ·exact e
   ·exfalso
    have h1 : (q :: ord (nms fs)).Nodup := List.nodup_cons.2 ⟨e, wo_nodup (nms fs) _⟩
    have h2 := nodup_len _ (nms fs).length h1 (fun i hi => by
     rcases List.mem_cons.1 hi with rfl | hi
     ·exact hq
     ·exact wo_lt (nms fs) _ i hi)
    have h3 := hF.all;rw [nms_len] at h2;rw [List.length_cons] at h2;omega
  exact hall k (by rw [nms_len]; exact hk)
 exact h2 k hmem
def BuP (fs : List Ft) (off : List ByteArray) (w : World) (e : Ending) (w' : World) : Prop :=
 (∃ c ab D v v3, e = .returned (.tuple #[v, .int .i64 c, v3]) ∧ Bu fs off c ab D ∧ SRow w' w.heap.size v3 ab ∧
  (∀ D', D = some D' → Fine fs ∧ Okd fs D' ∧ D'.done.length ≤ 30 ∧ ∃ g gc bm cap N vd vw ws, v = .pointer (some ⟨g, 0, none⟩) ∧ Pdm w' N fs g gc bm cap vd vw ws D' ∧ cap ≤ 30 ∧ (w.heap.size ≤ g ∧ w.heap.size ≤ gc ∧ w.heap.size ≤ bm) ∧ (g < N ∧ gc < N ∧ bm < N ∧ N ≤ w'.heap.size) ∧ g ≠ gc ∧ g ≠ bm ∧ gc ≠ bm)) ∧ Below w.heap.size w w'
theorem buildP_any (u : Option Addr) (p po n cu : Nat) (fs : List Ft) (uf : Option Addr) (mf cf : Nat) (off : List ByteArray) (w : World) (hl : fs.length = n) (hn : n ≤ 1048576) (hs : ∀ f ∈ fs, f.nm.size ≤ maxLen ∧ f.on.size ≤ maxLen ∧ f.ov.size ≤ maxLen) (hu : SlG ftc 15 w u p po fs)
  (hof : off.length = mf) (hmf : mf ≤ 1048576) (hos : ∀ s ∈ off, s.size ≤ maxLen) (hst : StAt w uf off) :
  Calls Tryz.prog 47 #[.slice u n cu, .slice uf mf cf] w (BuP fs off w) := by
 have HRO := hide (readOff_any u p po n cu fs uf mf cf off w hl hn hs hu hof hmf hos hst);have HL := hide hl;have HS := hide hs;have HU := hide hu;have HOF := hide hof;have HOS := hide hos;have HST := hide hst;clear hl hs hu hof hos hst;go_enter Tryz.func47, Tryz.ntmps47;go_wp2_with fail;refine (zu HRO).mono ?_;rintro e W1 ⟨⟨h0, h1, h2, h3, c, v3, ab, rfl, hsr, hone, hok⟩, hb⟩;have HB := hide hb;obtain ⟨us, cs, rfl, _⟩ := own_form hsr
 have hHo : (#[h0, h1, h2, h3] : Array Value).all (·.oneCell') = true := by
  rw [← Array.all_toList, List.all_eq_true];exact hone
 have HO := hide hHo;have HI := hide info135;have HVH := hide (vb_new W1 135 [h0, h1, h2, h3] _ rfl);have hbH := ba (bfl W1.heap.size W1) (.cells #[h0, h1, h2, h3] 135);have HB2 := hide (bc hb hbH);have HS2 := hide (hsr.bel hbH);have HBH := hide hbH
 rcases hok with ⟨hc, hbu⟩ | ⟨rfl, rfl, hlg, hck, hall, b, ua, c3, ub, c4, rfl, rfl, rfl, rfl, hmo, hna, hin⟩
 ·have hc' : (c == 0) = false := by simpa using hc
  have HE := hide (show BuP fs off w (.returned (.tuple #[.pointer none, .int .i64 c, .slice us ab.length cs])) (W1.alloc (.cells #[h0, h1, h2, h3] 135)) from ⟨⟨c, ab, none, _, _, rfl, hbu, zu HS2, fun _ e => by cases e⟩, zu HB2⟩);clear hc hbu hb hsr hone hHo hbH
  go_wp2_with (refine wpl_putNew rfl 135 _ _ rfl W1 _ #[h0, h1, h2, h3] 135 rfl rfl (zu HI) rfl (zu HO) ?_)
  refine bodyPost_ret (v := .tuple #[.pointer none, .int .i64 c, .slice us ab.length cs]) (by simp [results, Tryz.results47, go_sem]; done) rfl ?_;exact zu HE
 ·have hfine := hck.zero.1
  have HF := hide hfine;have HCK := hide hck;have HLG := hide hlg;have HALL := hide hall;have HMO := hide hmo;have HNA := hide hna;have HIN := hide hin;have HBB := hide hb;clear hb hsr hone hHo hbH hfine hck hlg hall hmo hna hin
  go_upto_region 4 with (refine wpl_putNew rfl 135 _ _ rfl W1 _ #[.slice u n cu, .map (some b), .slice ua n c3, .slice ub n c4] 135 rfl rfl (zu HI) rfl (zu HO) ?_)
  refine Go.Code.wp_mono (Only.to (fun _ _ h => h)) (bd4 (n := n) (B := W1.heap.size) (M := lft (nms fs) (sdN fs off) (ord (nms fs))) (fs := fs) (off := off) (hide ((zu HVH).cell (m := 0) rfl)) (hide ((zu HVH).cell (m := 1) rfl)) (hide ((zu HVH).cell (m := 2) rfl)) (hide ((zu HVH).cell (m := 3) rfl)) (hide fun Xw hX => ?_) (hide fun vl Xw hX hlv => ?_) ?_)
  ·have hbX := (zu HBH).trans (hX.mono (zu HBH).size)
   refine (leftP_any u ua ub uf n cu b c3 c4 cf mf fs off Xw (zu HL) (zu HF) ((zu HMO).bel hbX) ((zu HNA).bel hbX) ((zu HIN).bel hbX) (zu HOF) hmf (fun s hs => ⟨zu HOS s hs, by
    cases hq : findN fs s with
    | none => exact (zu HALL s hs hq).elim
    | some q => exact ⟨q, rfl⟩⟩) ((zu HST).bel ((zu HB).trans (hbX.mono (zu HB).size)))).mono ?_
   rintro e w' ⟨⟨g, rfl, _, hv⟩, hb9⟩;exact ⟨⟨_, rfl, g, rfl, hv⟩, hb9⟩
  ·obtain ⟨gl, rfl, hv⟩ := hlv
   have hbX := (zu HBH).trans (hX.mono (zu HBH).size);refine (bodyP_any u ua ub p po n cu n c3 c4 b gl n fs off _ Xw (zu HL) (zu HF) (zu HS) ((zu HU).bel ((zu HB).trans (hbX.mono (zu HB).size))) ((zu HIN).bel hbX) hv (fun k hk => left_lf (zu HF) (zu HALL) (by rw [zu HL]; exact hk))).mono ?_;rintro e w' ⟨⟨v, rfl, hv9⟩, hb9⟩;exact ⟨⟨v, by rw [← hv9.tup], hv9.mono (by have := hbX.size; omega)⟩, hb9⟩
  ·intro vl va W2 hb4 hlf hbv
   have HBV := hide hbv;have HB4 := hide (bc (zu HB2) hb4);clear hbv hb4 hlf;go_wp2_with fail;refine bodyPost_ret (v := .tuple #[nth va 0, nth va 1, nth va 2]) (by simp [results, Tryz.results47, go_sem]; done) rfl ?_;have hbv := zu HBV;unfold BpV at hbv;refine ⟨?_, zu HB4⟩;have hw1 := (zu HB).size
   split at hbv
   ·rename_i x hx
    obtain ⟨v9, rfl, hs9⟩ := hbv;refine ⟨x.1, x.2, none, .pointer none, v9, rfl, ?_, hs9.mono hw1, fun _ e => by cases e⟩;unfold Bu;rw [if_neg (zu HLG)];exact ⟨0, [], zu HCK, .inr ⟨rfl, .inr ⟨zu HALL, .inl ⟨x, hx, rfl, rfl, rfl⟩⟩⟩⟩
   ·rename_i D hD
    obtain ⟨h1, h2, g, gc, bm, cap, N, vd, vw, ws, rfl, hP, hc, ⟨b1, b2, b3⟩, hl9⟩ := hbv;refine ⟨0, [], some D, .pointer (some ⟨g, 0, none⟩), .slice none 0 0, rfl, ?_, own_nil _ _ _ _, fun D' e => ?_⟩
    ·unfold Bu
     rw [if_neg (zu HLG)];exact ⟨0, [], zu HCK, .inr ⟨rfl, .inr ⟨zu HALL, .inr ⟨D, hD, rfl, rfl, rfl⟩⟩⟩⟩
    ·cases e
     exact ⟨zu HF, h1, h2, g, gc, bm, cap, N, vd, vw, ws, rfl, hP, hc, ⟨by omega, by omega, by omega⟩, hl9⟩
open Go.ChangeShapes Go.WideShapes Go.ChangeAt Go.RowKit
theorem sectP_any (u : Option Addr) (p po n cu : Nat) (fs : List Ft) (uf : Option Addr) (mf cf : Nat) (off : List ByteArray) (z : Int) (w : World) (hl : fs.length = n) (hn : n ≤ 1048576) (hs : ∀ f ∈ fs, f.nm.size ≤ maxLen ∧ f.on.size ≤ maxLen ∧ f.ov.size ≤ maxLen) (hu : SlG ftc 15 w u p po fs)
  (hof : off.length = mf) (hmf : mf ≤ 1048576) (hos : ∀ s ∈ off, s.size ≤ maxLen) (hst : StAt w uf off) :
  Calls Tryz.prog 27 #[.slice u n cu, .slice uf mf cf, .int .i64 z] w fun e w' => (∃ v c rows, e = .returned (.tuple #[v, .int .i64 c]) ∧ ScAns fs off z c rows ∧ SRow w' w.heap.size v rows) ∧ Below w.heap.size w w' := by
 obtain ⟨iT, ht, hx0, hx1, hx2⟩ := info_parts info9;have HBU := hide (buildP_any u p po n cu fs uf mf cf off w hl hn hs hu hof hmf hos hst);have HBT := hide (fun W => btw_any z 0 23 W);clear hl hs hu hof hos hst;go_enter Tryz.func27, Tryz.ntmps27;go_wp2_with fail;refine (zu HBU).mono ?_;rintro e W1 ⟨⟨c, ab, D, v, v3, rfl, hbu, hsr, hD⟩, hb⟩;have HB := hide hb;have HBQ := hide hbu;have HDD := hide hD;clear hb hbu hsr hD HBU
 by_cases hc : c = 0
 rotate_left
 ·have hc' : (c == 0) = false := by simpa using hc
  have HE := hide (show (∃ v c2 rows, Ending.returned (.tuple #[.slice none 0 0, .int .i64 c]) = .returned (.tuple #[v, .int .i64 c2]) ∧ ScAns fs off z c2 rows ∧ SRow W1 w.heap.size v rows) ∧ Below w.heap.size w W1 from
    ⟨⟨_, c, [], rfl, ⟨c, ab, D, zu HBQ, .inl ⟨hc, rfl, rfl⟩⟩, own_nil _ _ _ _⟩, zu HB⟩)
  clear hc HDD;go_wp2_with fail;refine bodyPost_ret (v := .tuple #[.slice none 0 0, .int .i64 c]) (by simp [results, Tryz.results27, go_sem]; done) rfl ?_;exact zu HE
 subst hc
 have hbt : btw z 0 23 = decide (0 ≤ z ∧ z ≤ 23) := by
  unfold btw
  by_cases h1 : 0 ≤ z <;> by_cases h2 : z ≤ 23 <;> simp [h1, h2]
 rw [hbt] at HBT
 by_cases hz : 0 ≤ z ∧ z ≤ 23
 rotate_left
 ·have HE := hide (show (∃ v c2 rows, Ending.returned (.tuple #[.slice none 0 0, .int .i64 5]) = .returned (.tuple #[v, .int .i64 c2]) ∧ ScAns fs off z c2 rows ∧ SRow W1 w.heap.size v rows) ∧ Below w.heap.size w W1 from
     ⟨⟨_, 5, [], rfl, ⟨0, ab, D, zu HBQ, .inr (.inl ⟨rfl, hz, rfl, rfl⟩)⟩, own_nil _ _ _ _⟩, zu HB⟩)
  rw [df hz] at HBT;clear HDD hz hbt;go_wp2_with fail;refine (zu HBT _).mono ?_;rintro e W2 ⟨rfl, hw2⟩;rw [hw2];clear hw2 W2;go_wp2_with fail;refine bodyPost_ret (v := .tuple #[.slice none 0 0, .int .i64 5]) (by simp [results, Tryz.results27, go_sem]; done) rfl ?_;exact zu HE
 rw [dt hz] at HBT
 obtain ⟨k, rfl⟩ : ∃ k : Nat, z = (k : Int) := ⟨z.toNat, by omega⟩
 have hk : k < 24 := by omega
 obtain ⟨D', hD'⟩ := (zu HBQ).zero;obtain ⟨hF, hok, hdl, g, gc, bm, cap, N, vd, vw, ws, rfl, hpd, hcp, hge, hlt, hne⟩ := zu HDD D' hD';have HEND := hide (show ScAns fs off (k : Int) 0 (sect D'.cs k) from ⟨0, ab, D, zu HBQ, .inr (.inr ⟨rfl, hz, rfl, D', hD', by rw [Int.toNat_natCast]⟩)⟩)
 obtain ⟨c, hcc⟩ : ∃ c, D'.cs = c := ⟨_, rfl⟩
 have hcel := hpd.cel;rw [hcc] at HEND hcel;have HROW := hide (fun (y : Nat) W (hy : y < 24) (hW : Below W1.heap.size W1 W) => row_any g gc vd vw _ c y k W (hpd.blk.bel hW) (hcel.bel hW) hy hk);clear hF hok hdl hpd hge hlt hne HDD hD' hz hcc HBQ hbt hcel hcp;go_wp2_with fail;refine (zu HBT _).mono ?_;rintro e W2 ⟨rfl, hw2⟩;rw [hw2];clear hw2 W2;go_wp2_with fail
 go_loopw [11, 26] (fun v s W => ∃ y : Nat, s = .int .i64 (y : Int) ∧ y ≤ 24 ∧ W.ownsRow W1.heap.size 9 1 v y (strs ((sect c k).take y)) ∧ Below W1.heap.size W1 W) (fun _ s _ => 24 - (intOf s).toNat)
 case atStart => exact ⟨0, rfl, Nat.zero_le _, own_nil _ _ _ _, bfl _ _⟩
 case round =>
  obtain ⟨y, rfl, hy, hown, hb1⟩ := hrel;rename World => W2
  have HOW := hide hown;have HC2 := hide hb1;obtain ⟨uq, cq, rfl, _⟩ := own_form hown;clear hown hb1
  by_cases h : y < 24
  ·have i1 : (y : Int) < 24 := by omega
   have i0 : (0 : Int) ≤ (y : Int) := Int.natCast_nonneg _;have iz : decide ((y : Int) < 24) = true := dt i1;have wi : IntKind.i64.wrap ((y : Int) + 1) = ((y + 1 : Nat) : Int) := (wrap_i (by omega) (by omega)).trans (by simp);have HR := hide (zu HROW y _ h (zu HC2));have HTK := hide (strs_takeS (c := c) (z := k) h);generalize txB (rowL c y k) = tx at HR HTK;go_wp2_with fail;refine (zu HR).mono ?_;rintro e W3 ⟨rfl, hb3⟩;have HC4 := hide ((zu HC2).trans (hb3.mono (zu HC2).size));have HO4 := hide (own_bel (zu HOW) hb3);clear hb3
   go_wp2_with (at_builtin; refine zu ?_)
   refine hide ?_;refine wpList_append_own _ rfl _ _ 23 rfl W1.heap.size 9 iT _ 1 16 Tryz.underlying23 ht hx0 hx1 hx2 rfl (by decide) _ y _ rfl ((zu HO4).alloc _) _ 1 1 (strs [tx]) rfl rfl (by first | exact news_cells _ _ rfl | exact news_cells _ _ (by simp)) (by intro u hu; simp only [strs, List.map_cons, List.map_nil, List.mem_singleton] at hu; subst hu; rfl) (by unfold maxLen; omega) (by omega) (Nat.le_trans (zu HC4).size (by simp)) ?_;intro v' w1 hown' hgrow _
   have hbw1 : Below W1.heap.size W3 w1 := ((bfl _ _).alloc (zu HC4).size (.cells (strs [tx]).toArray 9)).grown hgrow (Nat.le_trans (zu HC4).size (by simp)) (fun g hg => (own_ge (zu HO4) g hg).1)
   have hown2 : w1.ownsRow W1.heap.size 9 1 v' (y + 1) (strs ((sect c k).take (y + 1))) := by
    rw [zu HTK];exact hown'
   have HO2 := hide hown2;have HBB := hide ((zu HC4).trans hbw1);clear hown' hgrow hown2 hbw1;go_wp2_with fail;go_roundw
   case rel => exact ⟨y + 1, by simp, h, zu HO2, zu HBB⟩
   case measure => simp only [intOf]; omega
  ·obtain rfl : y = 24 := by omega
   have iz : decide (((24 : Nat) : Int) < 24) = false := df (by omega);have hown := zu HOW;rw [sect_all] at hown;have HO4 := hide hown;clear hown;go_wp2_with fail;refine bodyPost_ret (v := .tuple #[.slice uq 24 cq, .int .i64 0]) (by simp [results, Tryz.results27, go_sem]; done) rfl ?_;exact ⟨⟨_, 0, _, rfl, zu HEND, by unfold SRow; rw [sect_len]; exact own_mono (zu HO4) (zu HB).size⟩, (zu HB).trans ((zu HC2).mono (zu HB).size)⟩
theorem st_szq (q : Int) (q0 : 0 ≤ q) (q1 : q ≤ 1048576) (u : Option Addr) (n cu : Nat) (l : List ByteArray) (w : World) (hl : l.length = n) (hn : n ≤ 9223372036854775807) (hs : ∀ s ∈ l, s.size ≤ maxLen) (hu : StAt w u l) :
  Calls Tryz.prog 10 #[.slice u n cu, .int .i64 q] w fun e w' => (∃ r : Int, e = .returned (.int .i64 r) ∧ (0 ≤ r → n ≤ 1048576 ∧ r ≤ 1048576)) ∧ w' = w := by
 have HU := hide hu;have HL := hide hl;have HS := hide hs;clear hu hl hs;have n0 : (0 : Int) ≤ (n : Int) := Int.natCast_nonneg _;have wq : IntKind.i64.wrap (q - (n : Int)) = q - (n : Int) := wrap_i (by omega) (by omega)
 by_cases hb : (n : Int) ≤ q
 ·have t : decide (q - (n : Int) < 0) = false := df (by omega)
  have t' : ¬ (q - (n : Int) < 0) := by omega
  go_enter Tryz.func10, Tryz.ntmps10;go_wp2
  go_loopw [1, 5] (fun qq s W => ∃ (i : Nat) (r : Int), qq = .int .i64 r ∧ 0 ≤ r ∧ r ≤ 1048576 ∧ s = .int .i64 (i : Int) ∧ i ≤ n ∧ W = w) (fun _ s _ => n - (intOf s).toNat)
  case atStart => exact ⟨0, _, rfl, by omega, by omega, rfl, Nat.zero_le _, rfl⟩
  case round =>
   obtain ⟨i, r, rfl, hr0, hr1, rfl, hi, hw⟩ := hrel;subst hw
   by_cases h : i < n
   ·have i1 : (i : Int) < (n : Int) := by omega
    have i0 : (0 : Int) ≤ (i : Int) := Int.natCast_nonneg _;have iz : decide ((i : Int) < (n : Int)) = true := dt i1;obtain ⟨s, hx⟩ := get_some (zu HL) h;have hne : l ≠ [] := by intro e; subst e; cases hx
    obtain ⟨g, o, rfl, _, hc⟩ := (zu HU) hne;have k0 := hc i s hx;have hss := zu HS s (List.mem_of_getElem? hx);unfold maxLen at hss;have wr1 : IntKind.i64.wrap (r - (s.size : Int)) = r - (s.size : Int) := wrap_i (by omega) (by omega);clear hx hc hne
    by_cases hz : r - (s.size : Int) < 0
    ·have hzd : decide (r - (s.size : Int) < 0) = true := dt hz
     go_wp2_with fail;go_ret;exact ⟨⟨-1, rfl, fun h => by omega⟩, rfl⟩
    ·have hzd : decide (r - (s.size : Int) < 0) = false := df hz
     go_wp2_with fail;go_roundw
     case rel => exact ⟨i + 1, r - (s.size : Int), rfl, by omega, by omega, by simp, h, by first | rfl | trivial⟩
     case measure => simp only [intOf]; omega
   ·have i1 : ¬ (i : Int) < (n : Int) := by omega
    have iz : decide ((i : Int) < (n : Int)) = false := df i1;go_wp2_with fail;go_ret;exact ⟨⟨_, rfl, fun _ => ⟨by omega, by omega⟩⟩, rfl⟩
 ·have t : decide (q - (n : Int) < 0) = true := dt (by omega)
  have t' : q - (n : Int) < 0 := by omega
  go_enter Tryz.func10, Tryz.ntmps10;go_wp2;go_ret;exact ⟨⟨-1, rfl, fun h => by omega⟩, rfl⟩
theorem st_to (u : Option Addr) (n cu : Nat) (l : List ByteArray) (w : World) (hl : l.length = n) (hn : n ≤ 1048576) (hu : StAt w u l) :
  Calls Tryz.prog 13 #[.slice u n cu] w fun e w' => (∃ g, e = .returned (.slice (some ⟨g, 0, none⟩) n n) ∧ w.heap.size ≤ g ∧ vb w' g 9 (strs l)) ∧ Below w.heap.size w w' := by
 have HU := hide hu;have HL := hide hl;have hmk := fun W => make_vals (P := Tryz.prog) 23 9 16 n (.string ⟨#[]⟩) rfl Tryz.underlying23 info9 (by omega) (by omega) W
 clear hu hl;generalize hZ : List.replicate n (Value.string ⟨#[]⟩) = Z at hmk;have HZ : Hid (Z.length = n) := hide (by rw [← hZ]; simp);clear hZ;go_enter Tryz.func13, Tryz.ntmps13;go_wp2_with fail
 go_loopw [4] (fun s W => ∃ (i : Nat) (L : List Value), s = .int .i64 (i : Int) ∧ i ≤ n ∧ L.length = n ∧ L.take i = (strs l).take i ∧ vb W w.heap.size 9 L ∧ Below w.heap.size w W) (fun s _ => n - (intOf s).toNat)
 case atStart => exact ⟨0, Z, rfl, Nat.zero_le _, zu HZ, by simp, vb_new w 9 Z _ rfl, ba (bfl _ _) _⟩
 case round =>
  obtain ⟨i, L, rfl, hi, hlen, htk, hv, hw⟩ := hrel;have HV := hide hv;have HW := hide hw;have HLN := hide hlen;have HTK := hide htk
  by_cases h : i < n
  ·have i1 : (i : Int) < (n : Int) := by omega
   have i0 : (0 : Int) ≤ (i : Int) := Int.natCast_nonneg _;have iz : decide ((i : Int) < (n : Int)) = true := dt i1;obtain ⟨s, hx⟩ := get_some (zu HL) h;have hne : l ≠ [] := by intro e; subst e; cases hx
   obtain ⟨g, o, rfl, hgl, hc⟩ := ((zu HU).bel hw) hne;have k0 := hc i s hx;have hil : i < L.length := by rw [hlen]; exact h
   have e0 : wr.cell? ⟨w.heap.size, i, none⟩ = some L[i] := hv.cell (List.getElem?_eq_getElem hil);have fz : ∀ q, wr.frozen? ⟨w.heap.size, q, none⟩ = false := hv.frozen;have HS := hide (hv.set i (.string s));have HWS : Hid (Below w.heap.size w (wr.setCell ⟨w.heap.size, i, none⟩ (.string s))) := hide (Below.setCell hw (Nat.le_refl _) _)
   have HT2 : Hid ((L.set i (.string s)).take (i + 1) = (strs l).take (i + 1)) := hide (by
    have hx2 : (strs l)[i]? = some (.string s) := by simp [strs, hx]
    rw [List.take_add_one, List.take_add_one, List.take_set_of_le (Nat.le_refl _), htk, hx2, List.getElem?_set_self hil])
   generalize L[i] = x0 at *;clear hx hc hne hil hlen htk hv hw;go_wp2_with fail;go_roundw
   case rel => exact ⟨i + 1, L.set i (.string s), by simp, h, by rw [List.length_set]; exact zu HLN, zu HT2, zu HS, zu HWS⟩
   case measure => simp only [intOf]; omega
  ·have i1 : ¬ (i : Int) < (n : Int) := by omega
   have iz : decide ((i : Int) < (n : Int)) = false := df i1
   have HE : Hid (L = strs l) := hide (by
    rw [List.take_of_length_le (by omega), List.take_of_length_le (by simp [strs]; rw [zu HL]; omega)] at htk
    exact htk)
   clear hlen htk hv hw;go_wp2_with fail;go_ret;exact ⟨⟨_, rfl, Nat.le_refl _, by rw [← zu HE]; exact zu HV⟩, zu HW⟩
open Go.ChangeShapes Go.WideShapes Go.ChangeAt Go.RowKit Go.Deep
theorem open_sts {H : Type} {enc : TypeId × Value → H} {w : World} {base : Nat} {spare : Nat → Bool} {held : Bool} {fuel : Nat} {cs : List Value} {x : DataW H × List MemPlace}
  (h : DataW.trod enc Tryz.prog w base spare held fuel 23 cs = some x) :
  ∃ (u : Option Addr) (n cap p po : Nat) (l : List ByteArray), cs = [.slice u n cap] ∧ n ≤ 9223372036854775807 ∧ l.length = n ∧ (∀ s ∈ l, s.size ≤ maxLen) ∧ StAt w u l := by
 rcases open_strs Tryz.underlying23 Tryz.underlying9 cells9 h with ⟨rfl, _⟩ | ⟨a, len, cap, m, Sx, rfl, hb, hl, hm, hmm, _, hx⟩
 ·exact ⟨none, 0, 0, 0, 0, [], rfl, by omega, rfl, by simp, fun h => absurd rfl h⟩
 have hlm : len ≤ m := by rw [hmm]; split <;> omega
 refine ⟨_, len, cap, 0, 0, (List.range len).map Sx, rfl, ?_, by simp, ?_, ?_⟩
 ·unfold maxLen at hm; omega
 ·intro s hs
  obtain ⟨i, hi, rfl⟩ := List.mem_map.1 hs;exact (hx i (by have := List.mem_range.1 hi; omega)).2
 ·intro h0
  have hl0 : 0 < len := by
   rcases Nat.eq_zero_or_pos len with e | e
   ·subst e; exact (h0 (by simp)).elim
   ·exact e
  obtain ⟨p, po, sp⟩ := a
  have hsp : sp = none := by
   have hy := (hx 0 (by omega)).1
   cases sp with
   | none => rfl
   | some s =>
    simp only [Addr.add, World.cell?] at hy
    split at hy <;> simp at hy
  subst hsp;refine ⟨p, po, rfl, ?_, ?_⟩
  ·have hy := (hx 0 (by omega)).1
   rw [addr_add_none] at hy;exact cell_lt hy
  ·intro i s hi
   rw [List.getElem?_map] at hi;obtain ⟨j, hj, rfl⟩ := Option.map_eq_some_iff.1 hi
   have hjl := (List.getElem?_eq_some_iff.1 hj)
   obtain ⟨hjl, ej⟩ := hjl;rw [List.getElem_range] at ej;subst ej;have hy := (hx i (by have := hjl; rw [List.length_range] at this; omega)).1;rw [addr_add_none] at hy;exact hy
end Go.Proofs.YtkiplmabjeadgaaGreat
