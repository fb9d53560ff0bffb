/- The model's names of what hangs on a feature. -/
import Derived.Test.YtkiplmabjeadgaaGreatBaseQ
import Derived.Laws.BytesString
import Derived.Test.YtkiplmabjeadgaaGreatCkMQ
import Derived.Test.YtkiplmabjeadgaaGreatOrMQ
import Derived.Test.YtkiplmabjeadgaaGreatRhPQ
namespace Go.Proofs.YtkiplmabjeadgaaGreat
set_option maxRecDepth 100000
set_option maxHeartbeats 16000000
open Go.ChangeShapes Go.WideShapes Go.ChangeAt Go.RowKit
set_option linter.unusedVariables false
set_option linter.unusedSimpArgs false
theorem conv_one (x : Int) (W : World) (b : Nat) (h : W.cell? ⟨b, 0, none⟩ = some (.int .u8 x)) :
  Sem.run Tryz.prog (convert 93 9 (.slice (some ⟨b, 0, none⟩) 1 1)) W = .ok (.string ⟨#[UInt8.ofNat x.toNat]⟩) W := by
 rw [run_convert_bytes_string W 93 9 5 _ 1 1 Tryz.underlying93 Tryz.underlying5 Tryz.underlying9];rw [run_bytesToString W ⟨b, 0, none⟩ 1 1 [x] (by simp [loadCells, go_sem, h])];rfl
def digB (k : Nat) : ByteArray := ⟨#[UInt8.ofNat (48 + k % 10)]⟩
def digF : Nat → Nat → ByteArray → ByteArray
 | 0, _, o => o
 | f + 1, k, o => if k = 0 then o else digF f (k / 10) (digB k ++ o)
def mkT (k : Nat) : ByteArray := (⟨#[109]⟩ : ByteArray) ++ digF k k ByteArray.empty
theorem digF_zero (f : Nat) (o : ByteArray) : digF f 0 o = o := by cases f <;> simp [digF]
theorem digF_fuel : ∀ (f g k : Nat) (o : ByteArray), k ≤ f → k ≤ g → digF f k o = digF g k o := by
 intro f
 induction f with
 | zero => intro g k o h1 h2; have : k = 0 := by omega
           subst this; rw [digF_zero, digF_zero]
 | succ f ih =>
  intro g k o h1 h2
  by_cases h : k = 0
  ·subst h; rw [digF_zero, digF_zero]
  ·cases g with
   | zero => omega
   | succ g =>
    simp only [digF, if_neg h];exact ih g (k / 10) _ (by omega) (by omega)
theorem mkText_any (k : Nat) (w : World) (h0 : 0 < k) (h1 : k ≤ 100000000) : Calls Tryz.prog 52 #[.int .i64 (k : Int)] w fun e w' => e = .returned (.string (mkT k)) ∧ Below w.heap.size w w' := by
 have hk : decide ((k : Int) ≤ 0) = false := df (by omega);go_enter Tryz.func52, Tryz.ntmps52;go_wp2
 go_loopw [0, 3] (fun z s W => ∃ (j : Nat) (o : ByteArray), z = .int .i64 (j : Int) ∧ s = .string o ∧ j ≤ k ∧ o.size + j ≤ k ∧ digF j j o = digF k k ByteArray.empty ∧ Below w.heap.size w W) (fun z _ _ => (intOf z).toNat)
 case atStart => exact ⟨k, ByteArray.empty, rfl, rfl, Nat.le_refl _, by simp, rfl, bfl _ _⟩
 case round =>
  obtain ⟨j, o, rfl, rfl, hj, ho, hd, hw⟩ := hrel;have HW := hide hw;have HD := hide hd;clear hw hd
  by_cases h : 0 < j
  ·have j1 : decide ((0 : Int) < (j : Int)) = true := dt (by omega)
   have j2 : (0 : Int) < (j : Int) := by omega
   have hcv := conv_one (48 + (j : Int) % 10) (wr.alloc (.cells #[.int .u8 (48 + (j : Int) % 10)] 5)) wr.heap.size (by simp [go_sem])
   have e8 : (⟨#[UInt8.ofNat (48 + (j : Int) % 10).toNat]⟩ : ByteArray) = digB j := by
    unfold digB;rw [show (48 + (j : Int) % 10).toNat = 48 + j % 10 by omega]
   rw [e8] at hcv;have sz : (digB j).size = 1 := rfl;go_wp2_with fail;go_roundw
   case rel =>
    refine ⟨j / 10, digB j ++ o, by simp, rfl, by omega, ?_, ?_, ba (zu HW) _⟩
    ·rw [ByteArray.size_append, sz]; omega
    ·rw [← zu HD]
     cases j with
     | zero => omega
     | succ j =>
      show _ = digF (j + 1) (j + 1) o
      simp only [digF, if_neg (Nat.succ_ne_zero j)];exact digF_fuel _ _ _ _ (by omega) (by omega)
   case measure => simp only [intOf]; omega
  ·have j1 : decide ((0 : Int) < (j : Int)) = false := df (by omega)
   have j2 : ¬ (0 : Int) < (j : Int) := by omega
   have ej : j = 0 := by omega
   subst ej;have e : o = digF k k ByteArray.empty := by have := zu HD; rwa [digF_zero] at this
   subst e;go_wp2_with fail;go_ret;exact ⟨rfl, zu HW⟩
structure Mw (g : Nat) (w w' : World) : Prop where
 os : w'.os = w.os
 tape : w'.tape = w.tape
 output : w'.output = w.output
 size : w.heap.size ≤ w'.heap.size
 block : ∀ k, k < w.heap.size → k ≠ g → w'.heap[k]? = w.heap[k]?
theorem Mw.refl (g : Nat) (w : World) : Mw g w w := ⟨rfl, rfl, rfl, Nat.le_refl _, fun _ _ _ => rfl⟩
theorem Mw.bel {g : Nat} {a w w' : World} (h : Mw g a w) (hb : Below w.heap.size w w') : Mw g a w' :=
  ⟨hb.os.trans h.os, hb.tape.trans h.tape, hb.output.trans h.output, Nat.le_trans h.size hb.size, fun k hk hg => (hb.block k (Nat.lt_of_lt_of_le hk h.size)).trans (h.block k hk hg)⟩
theorem Mw.set {g : Nat} {a w : World} (h : Mw g a w) (o : Nat) (v : Value) : Mw g a (w.setCell ⟨g, o, none⟩ v) :=
  ⟨h.os, h.tape, h.output, by simpa [World.setCell] using h.size, fun k hk hg => (Below.heap_setCell _ _ _ _ hg).trans (h.block k hk hg)⟩
theorem Mw.below {g B : Nat} {w w' : World} (h : Mw g w w') (hB : B ≤ g) (hs : B ≤ w.heap.size) : Below B w w' :=
  ⟨h.os, h.tape, h.output, h.size, fun k hk => h.block k (by omega) (by omega)⟩
theorem cells15 {w : World} {p t n i : Nat} {L : List Value} (hv : vb w p t L) (hl : L.length = n * 15) (h : i < n) {j : Nat} (hj : j < 15) : ∃ v, w.cell? ⟨p, i * 15 + j, none⟩ = some v := by
 have hx : i * 15 + j < L.length := by rw [hl]; omega
 exact ⟨_, hv.cell (List.getElem?_eq_getElem hx)⟩
theorem ft_mark (u : Option Addr) (p n cu c : Nat) (L : List Value) (w : World) (hl : L.length = n * 15) (hn : n ≤ 1048576) (c0 : 0 < c) (c1 : c ≤ 40000000) (hu : u = some ⟨p, 0, none⟩) (hv : vb w p 75 L) :
  Calls Tryz.prog 18 #[.slice u n cu, .int .i64 (c : Int)] w fun e w' => e = .returned (.int .i64 ((c : Int) + 15 * (n : Int))) ∧ Mw p w w' := by
 subst hu;have HV := hide hv;have HL := hide hl;clear hv hl;go_enter Tryz.func18, Tryz.ntmps18;go_wp2
 go_loopw [1, 5] (fun s t W => ∃ (i : Nat) (L : List Value), s = .int .i64 ((c : Int) + 15 * (i : Int)) ∧ t = .int .i64 (i : Int) ∧ i ≤ n ∧ L.length = n * 15 ∧ vb W p 75 L ∧ Mw p w W) (fun _ s _ => n - (intOf s).toNat)
 case atStart => exact ⟨0, L, by simp, rfl, Nat.zero_le _, zu HL, zu HV, Mw.refl _ _⟩
 case round =>
  clear HV HL L;obtain ⟨i, L, rfl, rfl, hi, hl, hb, hw⟩ := hrel;have HB := hide hb;have HW := hide hw;clear hb hw
  by_cases h : i < n
  ·have i1 : (i : Int) < (n : Int) := by omega
   have i0 : (0 : Int) ≤ (i : Int) := Int.natCast_nonneg _;have iz : decide ((i : Int) < (n : Int)) = true := dt i1;have K0 := hide (fun W => mkText_any (c + 15 * i) W (by omega) (by omega));have K1 := hide (fun W => mkText_any (c + 15 * i + 1) W (by omega) (by omega));have K2 := hide (fun W => mkText_any (c + 15 * i + 2) W (by omega) (by omega));rw [show (((c + 15 * i : Nat) : Int)) = (c : Int) + 15 * (i : Int) by omega] at K0;rw [show (((c + 15 * i + 1 : Nat) : Int)) = (c : Int) + 15 * (i : Int) + 1 by omega] at K1
   rw [show (((c + 15 * i + 2 : Nat) : Int)) = (c : Int) + 15 * (i : Int) + 1 + 1 by omega] at K2;generalize mkT (c + 15 * i) = s0 at *;generalize mkT (c + 15 * i + 1) = s1 at *;generalize mkT (c + 15 * i + 2) = s2 at *;go_wp2_with fail;refine (zu K0 _).mono ?_;rintro e W1 ⟨rfl, hb1⟩;have pb1 := (zu HB).bel hb1;have HW1 := hide ((zu HW).bel hb1);obtain ⟨v0, e0⟩ := cells15 pb1 hl h (j := 0) (by omega);rw [Nat.add_zero] at e0;have fz1 : ∀ q, W1.frozen? ⟨p, q, none⟩ = false := pb1.frozen;have P1 := hide (pb1.set (i * 15) (.string s0));clear hb1 pb1;go_wp2_with fail;refine (zu K1 _).mono ?_
   rintro e W2 ⟨rfl, hb2⟩;have pb2 := (zu P1).bel hb2;have HW2 := hide (((zu HW1).set (i * 15) (.string s0)).bel hb2);obtain ⟨v1, e1⟩ := cells15 pb2 (n := n) (by rw [List.length_set]; exact hl) h (j := 1) (by omega);have fz2 : ∀ q, W2.frozen? ⟨p, q, none⟩ = false := pb2.frozen;have P2 := hide (pb2.set (i * 15 + 1) (.string s1));clear hb2 pb2 e0 fz1;go_wp2_with fail;refine (zu K2 _).mono ?_;rintro e W3 ⟨rfl, hb3⟩;have pb3 := (zu P2).bel hb3;have HW3 := hide (((zu HW2).set (i * 15 + 1) (.string s1)).bel hb3)
   have hl3 : ((L.set (i * 15) (Value.string s0)).set (i * 15 + 1) (.string s1)).length = n * 15 := by rw [List.length_set, List.length_set]; exact hl
   obtain ⟨v2, e2⟩ := cells15 pb3 hl3 h (j := 2) (by omega);obtain ⟨v3, e3⟩ := cells15 pb3 hl3 h (j := 3) (by omega);obtain ⟨v4, e4⟩ := cells15 pb3 hl3 h (j := 4) (by omega);obtain ⟨v5, e5⟩ := cells15 pb3 hl3 h (j := 5) (by omega);obtain ⟨v6, e6⟩ := cells15 pb3 hl3 h (j := 6) (by omega);obtain ⟨v7, e7⟩ := cells15 pb3 hl3 h (j := 7) (by omega);obtain ⟨v8, e8⟩ := cells15 pb3 hl3 h (j := 8) (by omega);obtain ⟨v9, e9⟩ := cells15 pb3 hl3 h (j := 9) (by omega);obtain ⟨v10, e10⟩ := cells15 pb3 hl3 h (j := 10) (by omega);obtain ⟨v11, e11⟩ := cells15 pb3 hl3 h (j := 11) (by omega)
   obtain ⟨v12, e12⟩ := cells15 pb3 hl3 h (j := 12) (by omega);obtain ⟨v13, e13⟩ := cells15 pb3 hl3 h (j := 13) (by omega);obtain ⟨v14, e14⟩ := cells15 pb3 hl3 h (j := 14) (by omega);have fz3 : ∀ q, W3.frozen? ⟨p, q, none⟩ = false := pb3.frozen;have P3 := hide pb3;clear hb3 pb3 e1 fz2;go_wp2_with fail;go_roundw
   case rel =>
    refine ⟨i + 1, _, by simp only [Value.int.injEq, true_and]; omega, by simp, h, ?_, (((((((((((((zu P3).set (i * 15 + 2) _).set (i * 15 + 3) _).set (i * 15 + 4) _).set (i * 15 + 5) _).set (i * 15 + 6) _).set (i * 15 + 7) _).set (i * 15 + 8) _).set (i * 15 + 9) _).set (i * 15 + 10) _).set (i * 15 + 11) _).set (i * 15 + 12) _).set (i * 15 + 13) _).set (i * 15 + 14) _, (((((((((((((zu HW3).set _ _).set _ _).set _ _).set _ _).set _ _).set _ _).set _ _).set _ _).set _ _).set _ _).set _ _).set _ _).set _ _⟩;simp only [List.length_set];exact hl
   case measure => simp only [intOf]; omega
  ·have i1 : ¬ (i : Int) < (n : Int) := by omega
   have iz : decide ((i : Int) < (n : Int)) = false := df i1;have en : i = n := by omega
   subst en;go_wp2_with fail;go_ret;exact ⟨rfl, zu HW⟩
def StAt (w : World) (u : Option Addr) (l : List ByteArray) : Prop := l ≠ [] → ∃ g o, u = some ⟨g, o, none⟩ ∧ g < w.heap.size ∧ ∀ (i : Nat) (s : ByteArray), l[i]? = some s → w.cell? ⟨g, o + i, none⟩ = some (.string s)
theorem StAt.bel {w w' : World} {u : Option Addr} {l : List ByteArray} (h : StAt w u l) (hb : Below w.heap.size w w') : StAt w' u l := by
 intro h0;obtain ⟨g, o, rfl, hg, hc⟩ := h h0;exact ⟨g, o, rfl, Nat.lt_of_lt_of_le hg hb.size, fun i s hi => (hb.cell (p := ⟨g, _, none⟩) hg).trans (hc i s hi)⟩
theorem SRow.stAt {w : World} {B n c : Nat} {u : Option Addr} {l : List ByteArray} (h : SRow w B (.slice u n c) l) : n = l.length ∧ StAt w u l := by
 obtain ⟨u9, c9, e9, _, _, h9⟩ := own_form h
 injection e9 with a1 a2 a3
 subst a1;refine ⟨a2, fun h0 => ?_⟩;obtain ⟨g, rfl, _, hg, hc⟩ := h9 (by intro e; exact h0 (List.eq_nil_of_length_eq_zero e));exact ⟨g, 0, rfl, hg, fun i s hi => by rw [Nat.zero_add]; apply hc; simp [strs, hi]⟩
theorem st_same (u v : Option Addr) (n cu cv : Nat) (l : List ByteArray) (w : World) (hl : l.length = n) (hn : n ≤ 1048576) (hu : StAt w u l) (hv : StAt w v l) :
  Calls Tryz.prog 16 #[.slice u n cu, .slice v n cv] w fun e w' => e = .returned (.bool true) ∧ Below w.heap.size w w' := by
 have HU := hide hu;have HV := hide hv;have HL := hide hl;clear hu hv hl;go_enter Tryz.func16, Tryz.ntmps16;go_wp2
 go_loopw [5] (fun s W => ∃ i : Nat, s = .int .i64 (i : Int) ∧ i ≤ n ∧ Below w.heap.size w W) (fun s _ => n - (intOf s).toNat)
 case atStart => exact ⟨0, rfl, Nat.zero_le _, bfl _ _⟩
 case round =>
  obtain ⟨i, rfl, hi, hw⟩ := hrel;have HW := hide hw
  by_cases h : i < n
  ·have i1 : (i : Int) < (n : Int) := by omega
   have i0 : (0 : Int) ≤ (i : Int) := Int.natCast_nonneg _;have iz : decide ((i : Int) < (n : Int)) = true := dt i1;obtain ⟨s, hx⟩ := get_some (zu HL) h;have hne : l ≠ [] := by intro e; subst e; cases hx
   obtain ⟨g, o, rfl, _, hc⟩ := ((zu HU).bel hw) hne;obtain ⟨g2, o2, rfl, _, hc2⟩ := ((zu HV).bel hw) hne;have k0 := hc i s hx;have l0 := hc2 i s hx;clear hx hne hc hc2 hw;go_wp2_with fail
   go_quiet (fail)
   go_wp2_with fail;go_roundw
   case rel => exact ⟨i + 1, by simp, h, (zu HW).trans ⟨rfl, rfl, rfl, Nat.le_refl _, fun _ _ => rfl⟩⟩
   case measure => simp only [intOf]; omega
  ·have i1 : ¬ (i : Int) < (n : Int) := by omega
   have iz : decide ((i : Int) < (n : Int)) = false := df i1;clear hw;go_wp2_with fail;go_ret;exact ⟨rfl, zu HW⟩
def mkS (c m : Nat) : List ByteArray := (List.range m).map fun i => mkT (c + i)
theorem mkS_len (c m : Nat) : (mkS c m).length = m := by simp [mkS]
theorem mkS_succ (c m : Nat) : mkS c (m + 1) = mkS c m ++ [mkT (c + m)] := by simp [mkS, List.range_succ]
theorem mkS_at (c m i : Nat) (h : i < m) : (mkS c m)[i]? = some (mkT (c + i)) := by simp [mkS, h]
theorem over_set (A B : List Value) (x y : Value) (n : Nat) (h : A.length = n) : (A ++ x :: B).set n y = A ++ [y] ++ B := by
 subst h;rw [List.set_append, if_neg (by omega), Nat.sub_self];simp
theorem st_mark (u : Option Addr) (B n cu c : Nat) (l : List ByteArray) (w : World) (hl : l.length = n) (hn : n ≤ 1048576) (c0 : 0 < c) (c1 : c ≤ 60000000) (hs : SRow w B (.slice u n cu) l) :
  Calls Tryz.prog 19 #[.slice u n cu, .int .i64 (c : Int)] w fun e w' => e = .returned (.int .i64 ((c : Int) + (n : Int))) ∧ SRow w' B (.slice u n cu) (mkS c n) ∧ (n = 0 → w' = w) ∧ (n ≠ 0 → ∃ g, u = some ⟨g, 0, none⟩ ∧ B ≤ g ∧ Mw g w w') := by
 obtain ⟨u9, c9, e9, _, _, h9⟩ := own_form hs
 injection e9 with a1 a2 a3
 subst a1;subst a3
 by_cases hn0 : n = 0
 ·subst hn0
  have hl0 : l = [] := List.eq_nil_of_length_eq_zero hl;subst hl0;have HS := hide hs;clear hs h9 hl a2;go_enter Tryz.func19, Tryz.ntmps19;go_wp2
  go_loopw [1, 5] (fun s t W => s = .int .i64 (c : Int) ∧ t = .int .i64 0 ∧ W = w) (fun _ s _ => 0)
  case atStart => exact ⟨rfl, rfl, rfl⟩
  case round =>
   obtain ⟨rfl, rfl, hw⟩ := hrel;subst hw;go_wp2;go_ret
   first
   | exact ⟨by simp, zu HS, fun _ => rfl, fun h => absurd rfl h⟩
   | exact ⟨by simp, zu HS, rfl⟩
   | exact ⟨by simp, zu HS⟩
 ·obtain ⟨g, rfl, hg1, hg2, hc⟩ := h9 (by omega)
  have HS := hide hs;have HL := hide hl;clear hs h9 hc hl a2;go_enter Tryz.func19, Tryz.ntmps19;go_wp2
  go_loopw [1, 5] (fun s t W => ∃ i : Nat, s = .int .i64 ((c : Int) + (i : Int)) ∧ t = .int .i64 (i : Int) ∧ i ≤ n ∧ W.ownsRow B 9 1 (.slice (some ⟨g, 0, none⟩) n cu) n (strs (mkS c i) ++ (strs l).drop i) ∧ Mw g w W) (fun _ s _ => n - (intOf s).toNat)
  case atStart => exact ⟨0, by simp, rfl, Nat.zero_le _, by have h9 := zu HS; unfold SRow at h9; rw [zu HL] at h9; simpa [mkS, strs] using h9, Mw.refl _ _⟩
  case round =>
   obtain ⟨i, rfl, rfl, hi, hown, hw⟩ := hrel;have HO := hide hown;have HW := hide hw;clear hown hw
   by_cases h : i < n
   ·have i1 : (i : Int) < (n : Int) := by omega
    have i0 : (0 : Int) ≤ (i : Int) := Int.natCast_nonneg _;have iz : decide ((i : Int) < (n : Int)) = true := dt i1;have K0 := hide (fun W => mkText_any (c + i) W (by omega) (by omega));rw [show (((c + i : Nat) : Int)) = (c : Int) + (i : Int) by omega] at K0;have hil : i < (strs l).length := by simp [strs]; rw [zu HL]; exact h
    have hdr : (strs l).drop i = (strs l)[i] :: (strs l).drop (i + 1) := List.drop_eq_getElem_cons hil;go_wp2_with fail;refine (zu K0 _).mono ?_;rintro e W1 ⟨rfl, hb1⟩;have ho1 := own_bel (zu HO) hb1;have HW1 := hide ((zu HW).bel hb1);rw [hdr] at ho1
    have e0 : W1.cell? ⟨g, i, none⟩ = some (strs l)[i] := by
     obtain ⟨u8, c8, e8, _, _, h8⟩ := own_form ho1
     injection e8 with b1 b2 b3
     subst b1;obtain ⟨g8, e9, _, _, hc8⟩ := h8 (by omega)
     cases e9
     apply hc8;rw [List.getElem?_append_right (by simp [strs, mkS_len]), show (strs (mkS c i)).length = i by simp [strs, mkS_len], Nat.sub_self];rfl
    have fz1 : ∀ q, W1.frozen? ⟨g, q, none⟩ = false := own_frz ho1;have hst := own_set ho1 i (.string (mkT (c + i)));rw [over_set _ _ _ _ i (by simp [strs, mkS_len])] at hst;have HST := hide hst;clear hb1 ho1 hst hdr;generalize hmk : mkT (c + i) = s0 at *;have HMK := hide hmk;clear hmk;generalize (strs l)[i] = x0 at *;go_wp2_with fail;go_roundw
    case rel =>
     refine ⟨i + 1, by simp only [Value.int.injEq, true_and]; omega, by simp, h, ?_, (zu HW1).set _ _⟩;rw [mkS_succ, zu HMK];have e : strs (mkS c i ++ [s0]) = strs (mkS c i) ++ [.string s0] := by simp [strs]
     rw [e];exact zu HST
    case measure => simp only [intOf]; omega
   ·have i1 : ¬ (i : Int) < (n : Int) := by omega
    have iz : decide ((i : Int) < (n : Int)) = false := df i1;have en : i = n := by omega
    subst en;have h9 := zu HO;rw [List.drop_eq_nil_of_le (by simp [strs]; rw [zu HL]; exact Nat.le_refl _), List.append_nil] at h9;have HO9 := hide h9;clear h9;go_wp2_with fail;go_ret
    have hsr : SRow wr B (.slice (some ⟨g, 0, none⟩) i cu) (mkS c i) := by
     unfold SRow;rw [mkS_len];exact zu HO9
    first
    | exact ⟨rfl, hsr, zu HW⟩
    | exact ⟨rfl, hsr, hg1, zu HW⟩
    | exact ⟨rfl, hsr, ⟨hg1, zu HW⟩⟩
    | exact ⟨rfl, hsr, fun h => absurd h hn0, fun _ => ⟨g, rfl, hg1, zu HW⟩⟩
    | exact ⟨rfl, hsr, fun h => absurd h hn0, fun _ => ⟨hg1, zu HW⟩⟩
    | exact ⟨rfl, hsr, fun h => (hn0 h).elim, fun _ => ⟨g, ⟨rfl, rfl⟩, hg1, zu HW⟩⟩
theorem st_held (u : Option Addr) (n cu c : Nat) (w : World) (hn : n ≤ 1048576) (c0 : 0 < c) (c1 : c ≤ 60000000) (hu : StAt w u (mkS c n)) :
  Calls Tryz.prog 22 #[.slice u n cu, .int .i64 (c : Int)] w fun e w' => e = .returned (.int .i64 ((c : Int) + (n : Int))) ∧ Below w.heap.size w w' := by
 have HU := hide hu;clear hu;go_enter Tryz.func22, Tryz.ntmps22;go_wp2
 go_loopw [1, 5] (fun s t W => ∃ i : Nat, s = .int .i64 ((c : Int) + (i : Int)) ∧ t = .int .i64 (i : Int) ∧ i ≤ n ∧ Below w.heap.size w W) (fun _ s _ => n - (intOf s).toNat)
 case atStart => exact ⟨0, by simp, rfl, Nat.zero_le _, bfl _ _⟩
 case round =>
  obtain ⟨i, rfl, rfl, hi, hw⟩ := hrel;have HW := hide hw
  by_cases h : i < n
  ·have i1 : (i : Int) < (n : Int) := by omega
   have i0 : (0 : Int) ≤ (i : Int) := Int.natCast_nonneg _;have iz : decide ((i : Int) < (n : Int)) = true := dt i1;have hx := mkS_at c n i h
   obtain ⟨g, o, rfl, _, hc⟩ := ((zu HU).bel hw) (by intro e; rw [e] at hx; cases hx)
   have k0 := hc i _ hx;have kl := cell_lt k0;have K0 := hide (fun W => mkText_any (c + i) W (by omega) (by omega));rw [show (((c + i : Nat) : Int)) = (c : Int) + (i : Int) by omega] at K0;clear hx hc hw;generalize mkT (c + i) = s0 at *;go_wp2_with fail
   go_region_held3 (fun wx => wx.cell? ⟨g, o + i, none⟩ = some (.string s0)) (simp (maxDischargeDepth := 12) [go_sem, le1, lt1, *])
    (first
    | (go_at_call 52; refine (zu K0 _).mono ?_; rintro e w' ⟨rfl, hb⟩; have HB := hide hb; have ya := keep1 hb (b := g) (o := o + i) (v := .string s0) k0; clear hb))
   all_goals
    go_wp2_with fail;go_roundw
    case rel => exact ⟨i + 1, by simp only [Value.int.injEq, true_and]; omega, by simp, h, by repeat (first | exact zu HW | refine bc ?_ (zu HB) | refine Below.drew ?_)⟩
    case measure => simp only [intOf]; omega
  ·have i1 : ¬ (i : Int) < (n : Int) := by omega
   have iz : decide ((i : Int) < (n : Int)) = false := df i1;have en : i = n := by omega
   subst en;clear hw;go_wp2_with fail;go_ret;exact ⟨rfl, zu HW⟩
open Go.ChangeShapes Go.WideShapes Go.ChangeAt Go.RowKit Go.Maps Go.WideMaps
def sdN (fs : List Ft) (l : List ByteArray) : List Nat := l.map fun s => (findN fs s).getD 0
def lup (G : List Nat) (k : Nat) (l : List Nat) : List Nat := if G.contains k || l.any (fun p => G.contains p) then G ++ [k] else G
theorem lup_nil (n : Nat) (G : List Nat) (k : Nat) : bl n (lup G k []) = bl n G := by
 apply bl_ext;intro i _;unfold lup
 cases hk : G.contains k
 ·rw [if_neg (by simp)]
 ·rw [if_pos (by simp), contains_snoc]
  by_cases e : i = k
  ·subst e; rw [hk]; rfl
  ·have : (i == k) = false := by simpa using e
   rw [this]; simp
theorem lup_one {n : Nat} {G : List Nat} {k y : Nat} (h : k < n) : (bl n G).set k (.bool (G.contains k || G.contains y)) = bl n (lup G k [y]) := by
 unfold lup
 cases hb : (G.contains k || G.contains y)
 ·rw [if_neg (by simp only [List.any_cons, List.any_nil, Bool.or_false]; rw [hb]; simp)]
  have hk : G.contains k = false := by cases e : G.contains k; rfl; rw [e] at hb; simp at hb
  have := bl_same (o := G) h;rw [hk] at this;exact this
 ·rw [if_pos (by simp only [List.any_cons, List.any_nil, Bool.or_false]; exact hb)]
  exact bl_set h
theorem leftP_any (u u3 u4 uf : Option Addr) (n cu bm c3 c4 cf mf : Nat) (fs : List Ft) (off : List ByteArray) (w : World) (hl : fs.length = n) (hfine : Fine fs) (hm : MapOf w bm fs n) (hnm : NmAt w u3 (nms fs)) (hor : Inn w (.slice u4 n c4) (ord (nms fs))) (hof : off.length = mf) (hmf : mf ≤ 1048576) (hos : ∀ s ∈ off, s.size ≤ maxLen ∧ ∃ q, findN fs s = some q) (hst : StAt w uf off) :
  Calls Tryz.prog 85 #[.agg #[.slice u n cu, .map (some bm), .slice u3 n c3, .slice u4 n c4], .slice uf mf cf] w fun e w' => (∃ g, e = .returned (.slice (some ⟨g, 0, none⟩) n n) ∧ w.heap.size ≤ g ∧ vb w' g 4 (bl n (lft (nms fs) (sdN fs off) (ord (nms fs))))) ∧ Below w.heap.size w w' := by
 have hn30 : n ≤ 30 := by have := hfine.len; omega
 have hmk := fun W => make_vals (P := Tryz.prog) 95 4 1 n (.bool false) rfl Tryz.underlying95 info4 (by omega) (by omega) W
 rw [← bl_nil] at hmk;have HL := hide hl;have HF := hide hfine;have HM := hide hm;have HNM := hide hnm;have HOR := hide hor;have HOF := hide hof;have HOS := hide hos;have HST := hide hst;clear hl hfine hm hnm hor hof hos hst;have HC0 := hide ((vb_new w 135 [.slice u n cu, .map (some bm), .slice u3 n c3, .slice u4 n c4] _ rfl).bel (ba (bfl _ _) (.cells (bl n []).toArray 4)));have HV0 := hide (vb_new (w.alloc (.cells #[.slice u n cu, .map (some bm), .slice u3 n c3, .slice u4 n c4] 135)) 4 (bl n []) _ rfl)
 have HB0 := hide (ba (ba (bfl w.heap.size w) (.cells #[.slice u n cu, .map (some bm), .slice u3 n c3, .slice u4 n c4] 135)) (.cells (bl n []).toArray 4));simp only [World.size_alloc] at HV0;go_enter Tryz.func85, Tryz.ntmps85;go_wp2_with fail;clear hmk
 go_loopw [18] (fun s W => ∃ i : Nat, s = .int .i64 (i : Int) ∧ i ≤ mf ∧ vb W (w.heap.size + 1) 4 (bl n (sdN fs (off.take i))) ∧ vb W w.heap.size 135 [.slice u n cu, .map (some bm), .slice u3 n c3, .slice u4 n c4] ∧ Below w.heap.size w W) (fun s _ => mf - (intOf s).toNat)
 case atStart => exact ⟨0, rfl, Nat.zero_le _, zu HV0, zu HC0, zu HB0⟩
 case round =>
  obtain ⟨i, rfl, him, hvb, hcb, hw⟩ := hrel;rename World => W1
  have HV := hide hvb;have HC := hide hcb;have HW := hide hw;have c1 := hcb.cell (m := 1) rfl;have c3' := hcb.cell (m := 3) rfl;clear hvb hcb hw HC0 HV0 HB0
  by_cases h : i < mf
  ·have i1 : (i : Int) < (mf : Int) := by omega
   have i0 : (0 : Int) ≤ (i : Int) := Int.natCast_nonneg _;have iz : decide ((i : Int) < (mf : Int)) = true := dt i1;obtain ⟨s, hx⟩ := get_some (zu HOF) h;obtain ⟨hss, q, hq⟩ := zu HOS s (List.mem_of_getElem? hx)
   obtain ⟨gf, of', rfl, hgf, hcf⟩ := (zu HST) (by intro e; rw [e] at hx; cases hx)
   have k0 : W1.cell? ⟨gf, of' + i, none⟩ = some (.string s) := ((zu HW).cell (p := ⟨gf, of' + i, none⟩) hgf).trans (hcf i s hx);have hlk := ((zu HM).bel (zu HW)).look1 (by rw [zu HL]; exact Nat.le_refl _) (fun j g _ hg => twi_none' (zu HF).once j g hg) s hss;rw [List.take_of_length_le (by rw [zu HL]; exact Nat.le_refl _)] at hlk;have hz : findZ fs s = (q : Int) := by unfold findZ; rw [hq]
   rw [hz] at hlk;have hqn : q < n := by have := findN_lt hq; rw [zu HL] at this; exact this
   have q1 : (q : Int) < (n : Int) := by omega
   have q0 : (0 : Int) ≤ (q : Int) := Int.natCast_nonneg _;have d0 := (zu HV).cell (bl_at (o := sdN fs (off.take i)) hqn);have fz : ∀ z, W1.frozen? ⟨w.heap.size + 1, z, none⟩ = false := (zu HV).frozen
   have hsd : sdN fs (off.take (i + 1)) = sdN fs (off.take i) ++ [q] := by
    unfold sdN;rw [List.take_add_one, hx, List.map_append];simp [hq]
   have HSD := hide hsd;clear hx hcf hz hsd hq;go_wp2_with fail;go_roundw
   case rel =>
    refine ⟨i + 1, by simp, h, ?_, (zu HC).ne (by omega), Below.setCell (zu HW) (by show w.heap.size ≤ w.heap.size + 1; omega) _⟩;rw [zu HSD, ← bl_set hqn];exact (zu HV).set q _
   case measure => simp only [intOf]; omega
  ·have i1 : ¬ (i : Int) < (mf : Int) := by omega
   have iz : decide ((i : Int) < (mf : Int)) = false := df i1;have hall : off.take i = off := List.take_of_length_le (by rw [zu HOF]; omega);rw [hall] at HV;clear hall;have hlo : (ord (nms fs)).length = n := by rw [(zu HF).all]; exact zu HL
   have HLO := hide hlo;have hlt : ∀ x ∈ ord (nms fs), x < n := by have := wo_lt (nms fs) (nms fs).length; rw [nms_len, zu HL] at this; unfold ord; rw [nms_len, zu HL]; exact this
   have HLT := hide hlt;have HOI := hide ((zu HOR).bel (zu HW));clear hlo hlt h;generalize hS : sdN fs off = S at *;generalize hP : ord (nms fs) = P at *;have HS9 := hide hS;have HP9 := hide hP;clear hS hP;go_wp2_with fail;clear iz i1
   go_loopw [32] (fun s W => ∃ i : Nat, s = .int .i64 (i : Int) ∧ i ≤ n ∧ vb W (w.heap.size + 1) 4 (bl n (lft (nms fs) S (P.take i))) ∧ vb W w.heap.size 135 [.slice u n cu, .map (some bm), .slice u3 n c3, .slice u4 n c4] ∧ Below w.heap.size w W) (fun s _ => n - (intOf s).toNat)
   case atStart => exact ⟨0, rfl, Nat.zero_le _, zu HV, zu HC, zu HW⟩
   case round =>
    obtain ⟨i, rfl, him, hvb, hcb, hw⟩ := hrel;clear HV HC HW c1 c3';rename World => W2
    have HV := hide hvb;have HC := hide hcb;have HW := hide hw;have c2 := hcb.cell (m := 2) rfl;clear hvb hcb hw
    by_cases h : i < n
    ·have i1 : (i : Int) < (n : Int) := by omega
     have i0 : (0 : Int) ≤ (i : Int) := Int.natCast_nonneg _;have iz : decide ((i : Int) < (n : Int)) = true := dt i1;obtain ⟨k, hk⟩ := get_some (zu HLO) h;have hkn := zu HLT k (List.mem_of_getElem? hk);obtain ⟨u8, c8, e8, h8⟩ := zu HOR;have e9 : u4 = u8 := by injection e8
     subst e9;obtain ⟨go, oo, rfl, hgo, hio⟩ := h8 (by intro e; rw [e] at hk; cases hk);have k0 := (hio.below (zu HW) hgo) i _ (nats_at hk);have k1 : (k : Int) < (n : Int) := by omega
     have kz : (0 : Int) ≤ (k : Int) := Int.natCast_nonneg _;obtain ⟨l, hx⟩ := get_some (show (nms fs).length = n by rw [nms_len]; exact zu HL) hkn;obtain ⟨gn, on, rfl, xv, xc, hcx, hin⟩ := ((zu HNM).bel (zu HW)).at hx;have hll : l.length ≤ 1 := (zu HF).one.one l (List.mem_of_getElem? hx);have hlt2 := (zu HF).one.lt l (List.mem_of_getElem? hx);rw [nms_len, zu HL] at hlt2
     have hst : lft (nms fs) S (P.take (i + 1)) = lup (lft (nms fs) S (P.take i)) k l := by
      rw [List.take_add_one, hk, Option.toList_some, lft_snoc];unfold lstep lup;rw [List.getD_eq_getElem?_getD, hx];rfl
     have HSTP := hide hst;generalize lft (nms fs) S (P.take i) = G at *;have HIN := hide hin;have HLT2 := hide hlt2;have HNK := hide hx;have HKN := hide hkn;clear hk e8 h8 hio hx hin hst hlt2;go_wp2_with fail;rename World => W2
     go_loopw [42] (fun s W => vb W w.heap.size 135 [.slice u n cu, .map (some bm), .slice (some ⟨gn, on, none⟩) n c3, .slice (some ⟨go, oo, none⟩) n c4] ∧ Below w.heap.size w W ∧ ((s = .int .i64 0 ∧ W = W2) ∨ (s = .int .i64 1 ∧ l.length = 1 ∧ vb W (w.heap.size + 1) 4 (bl n (lup G k l))))) (fun s _ => 1 - (intOf s).toNat)
     case atStart => exact ⟨zu HC, zu HW, .inl ⟨rfl, rfl⟩⟩
     case round =>
      obtain ⟨hcb, hw, ⟨rfl, hww⟩ | ⟨rfl, hl1, hvb⟩⟩ := hrel
      ·subst hww
       rename World => W2
       clear hcb hw
       match l, hll with
       | [], _ =>
        have hv2 := zu HV;rw [← lup_nil n G k] at hv2;have HV2 := hide hv2;clear hv2;go_wp2_with fail;go_roundw
        case rel =>
         refine ⟨i + 1, by simp, h, ?_, zu HC, zu HW⟩;rw [zu HSTP];exact zu HV2
        case measure => simp only [intOf]; omega
       | [y], _ =>
        obtain ⟨bx, qx, rfl, hcell⟩ := zu HIN (by simp);have k2 := hcell 0 y rfl;have hyn := zu HLT2 y (by simp);have y1 : (y : Int) < (n : Int) := by omega
        have y0 : (0 : Int) ≤ (y : Int) := Int.natCast_nonneg _;have dk := (zu HV).cell (bl_at (o := G) (zu HKN));have dy := (zu HV).cell (bl_at (o := G) hyn);have fz : ∀ z, W2.frozen? ⟨w.heap.size + 1, z, none⟩ = false := (zu HV).frozen;have HV2 := hide ((zu HV).set k (.bool (G.contains k || G.contains y)));rw [lup_one (zu HKN)] at HV2;simp only [List.length_singleton, Nat.add_zero] at hcx k2;clear hcell;generalize G.contains k = bk at *;generalize G.contains y = by' at *
        cases bk
        ·go_wp2_with fail
         go_roundw
         case rel => exact ⟨(zu HC).ne (by omega), Below.setCell (zu HW) (by show w.heap.size ≤ w.heap.size + 1; omega) _, .inr ⟨rfl, rfl, zu HV2⟩⟩
         case measure => simp [intOf]
        ·go_wp2_with fail
         go_roundw
         case rel => exact ⟨(zu HC).ne (by omega), Below.setCell (zu HW) (by show w.heap.size ≤ w.heap.size + 1; omega) _, .inr ⟨rfl, rfl, zu HV2⟩⟩
         case measure => simp [intOf]
      ·rw [hl1]
       have HV2 := hide hvb;have HC2 := hide hcb;have HW2 := hide hw;clear hvb hcb hw;go_wp2_with fail;go_roundw
       case rel =>
        refine ⟨i + 1, by simp, h, ?_, zu HC2, zu HW2⟩;rw [zu HSTP];exact zu HV2
       case measure => simp only [intOf]; omega
    ·have i1 : ¬ (i : Int) < (n : Int) := by omega
     have iz : decide ((i : Int) < (n : Int)) = false := df i1;have hall : P.take i = P := List.take_of_length_le (by rw [zu HLO]; omega);rw [hall] at HV;clear hall;go_wp2_with fail;go_ret;exact ⟨⟨_, rfl, by omega, by rw [zu HS9, zu HP9]; exact zu HV⟩, zu HW⟩
theorem wo_full {nm : List (List Nat)} (h : (ord nm).length = nm.length) : ∀ i, i ≤ nm.length → (wo nm i).length = i := by
 intro i
 induction i with
 | zero => intro _; rfl
 | succ i ih =>
  intro hi;have h1 := ih (by omega);obtain ⟨k, hk⟩ := wo_next h (by omega) h1;rw [wo_some hk];simp [h1]
theorem wo_more (nm : List (List Nat)) (i d : Nat) : ∃ T, wo nm (i + d) = wo nm i ++ T := by
 induction d with
 | zero => exact ⟨[], by simp⟩
 | succ d ih =>
  obtain ⟨T, hT⟩ := ih;rw [← Nat.add_assoc]
  cases h : ff nm (wo nm (i + d)) with
  | none => rw [wo_none h _ (Nat.le_succ _)]; exact ⟨T, hT⟩
  | some k => rw [wo_some h, hT]; exact ⟨T ++ [k], by simp⟩
theorem ord_take {nm : List (List Nat)} (h : (ord nm).length = nm.length) {i : Nat} (hi : i ≤ nm.length) : (ord nm).take i = wo nm i := by
 obtain ⟨T, hT⟩ := wo_more nm i (nm.length - i);rw [show i + (nm.length - i) = nm.length by omega] at hT;unfold ord;rw [hT, List.take_append_of_le_length (by rw [wo_full h i hi]; exact Nat.le_refl _), List.take_of_length_le (by rw [wo_full h i hi]; exact Nat.le_refl _)]
theorem ord_at {nm : List (List Nat)} (h : (ord nm).length = nm.length) {i k : Nat} (hi : i < nm.length) (hk : ff nm (wo nm i) = some k) : (ord nm)[i]? = some k := by
 have h1 := ord_take h (i := i + 1) hi;rw [wo_some hk] at h1
 have h2 : ((ord nm).take (i + 1))[i]? = some k := by
  rw [h1, List.getElem?_append_right (by rw [wo_full h i (by omega)]; exact Nat.le_refl _), wo_full h i (by omega), Nat.sub_self];rfl
 rw [List.getElem?_take, if_pos (by omega)] at h2;exact h2
def m1 (M : List Nat) (b : Bool) (k : Nat) : List Nat := if b then M ++ [k] else M
theorem m1_set {n : Nat} {M : List Nat} {b : Bool} {k : Nat} (h : k < n) (hm : M.contains k = false) : (bl n M).set k (.bool b) = bl n (m1 M b k) := by
 unfold m1
 cases b
 ·have := bl_same (o := M) h
  rw [hm] at this;exact this
 ·exact bl_set h
theorem m1_has {M : List Nat} {b : Bool} {k : Nat} (hm : M.contains k = false) : (m1 M b k).contains k = b := by
 unfold m1
 cases b
 ·exact hm
 ·rw [if_pos rfl, contains_snoc]; simp
theorem m1_other {M : List Nat} {b : Bool} {k y : Nat} (h : y ≠ k) : (m1 M b k).contains y = M.contains y := by
 unfold m1
 cases b
 ·rfl
 ·rw [if_pos rfl, contains_snoc]; simp [h]
theorem mgo_bl {n : Nat} {nm : List (List Nat)} {sd : Nat → Bool} {M : List Nat} {k y : Nat} (hm : M.contains k = false) (hy : y ≠ k) (hn : nm.getD k [] = [y]) : bl n (lup (m1 M (sd k) k) k [y]) = bl n (mgo nm sd M k) := by
 apply bl_ext;intro i _;unfold lup mgo;rw [hn, m1_has hm];simp only [List.any_cons, List.any_nil, Bool.or_false];rw [m1_other hy]
 cases hs : sd k <;> cases hM : M.contains y <;> simp [m1]
theorem mgo_nil {nm : List (List Nat)} {sd : Nat → Bool} {M : List Nat} {k : Nat} (hn : nm.getD k [] = []) : m1 M (sd k) k = mgo nm sd M k := by
 unfold m1 mgo;rw [hn];simp
end Go.Proofs.YtkiplmabjeadgaaGreat
