/- Squares: whose they are, that they differ, which ones touch. -/
import Derived.Test.YtkiplmabjeadgaaGreatBaseQ
import Derived.Test.YtkiplmabjeadgaaGreatFoMathQ
namespace Go.Proofs.YtkiplmabjeadgaaGreat
set_option maxRecDepth 100000
set_option maxHeartbeats 16000000
set_option linter.unusedVariables false
set_option linter.unusedSimpArgs false
inductive Rch (t : Nat → Nat → Bool) (n : Nat) (i : Nat) : Nat → Prop
 | refl : Rch t n i i
 | step {j k : Nat} : Rch t n i j → k < n → t j k = true → Rch t n i k
theorem Rch.trans {t : Nat → Nat → Bool} {n i j k : Nat} (h : Rch t n i j) (g : Rch t n j k) : Rch t n i k := by
 induction g with
 | refl => exact h
 | step _ h2 h3 ih => exact .step ih h2 h3
theorem Rch.lt {t : Nat → Nat → Bool} {n i j : Nat} (h : Rch t n i j) (hi : i < n) : j < n := by
 cases h with
 | refl => exact hi
 | step _ h2 _ => exact h2
def Sn (t : Nat → Nat → Bool) (n K k : Nat) : Prop := ∃ j, j < K ∧ Rch t n j k
noncomputable def pcs (t : Nat → Nat → Bool) (n : Nat) : Nat → Nat
 | 0 => 0
 | K + 1 => pcs t n K + (if (Classical.propDecidable (Sn t n K K)).decide then 0 else 1)
theorem pcs_seen {t : Nat → Nat → Bool} {n K : Nat} (h : Sn t n K K) : pcs t n (K + 1) = pcs t n K := by
 unfold pcs;rw [if_pos (by simpa using h)]
 cases K <;> rfl
theorem pcs_new {t : Nat → Nat → Bool} {n K : Nat} (h : ¬ Sn t n K K) : pcs t n (K + 1) = pcs t n K + 1 := by
 show pcs t n K + _ = _
 rw [if_neg (by simpa using h)]
theorem pcs_le (t : Nat → Nat → Bool) (n : Nat) : ∀ K, pcs t n K ≤ K
 | 0 => Nat.le_refl _
 | K + 1 => by
  have := pcs_le t n K
  by_cases h : Sn t n K K
  ·rw [pcs_seen h]; omega
  ·rw [pcs_new h]; omega
theorem Sn.succ {t : Nat → Nat → Bool} {n K k : Nat} : Sn t n (K + 1) k ↔ Sn t n K k ∨ Rch t n K k := by
 constructor
 ·rintro ⟨j, hj, h⟩
  by_cases e : j = K
  ·subst e; exact .inr h
  ·exact .inl ⟨j, by omega, h⟩
 ·rintro (⟨j, hj, h⟩ | h)
  ·exact ⟨j, by omega, h⟩
  ·exact ⟨K, by omega, h⟩
theorem Sn.seen {t : Nat → Nat → Bool} {n K k : Nat} (h : Sn t n K K) : Sn t n (K + 1) k ↔ Sn t n K k := by
 rw [Sn.succ];constructor
 ·rintro (h1 | h1)
  ·exact h1
  ·obtain ⟨j, hj, h2⟩ := h
   exact ⟨j, hj, h2.trans h1⟩
 ·exact .inl
theorem Sn.closed {t : Nat → Nat → Bool} {n K a k : Nat} (h : Sn t n K a) (hk : k < n) (ht : t a k = true) : Sn t n K k := by
 obtain ⟨j, hj, h2⟩ := h;exact ⟨j, hj, .step h2 hk ht⟩
theorem Rch.congr {t t' : Nat → Nat → Bool} {n i k : Nat} (hi : i < n) (h : ∀ a b, a < n → b < n → t a b = t' a b) (g : Rch t n i k) : Rch t' n i k := by
 induction g with
 | refl => exact .refl
 | step h1 h2 h3 ih => exact .step ih h2 (by rw [← h _ _ (h1.lt hi) h2]; exact h3)
theorem pcs_congr {t t' : Nat → Nat → Bool} {n : Nat} (h : ∀ a b, a < n → b < n → t a b = t' a b) : ∀ K, K ≤ n → pcs t n K = pcs t' n K
 | 0, _ => rfl
 | K + 1, hK => by
  have ih := pcs_congr h K (by omega)
  by_cases hs : Sn t n K K
  ·have hs' : Sn t' n K K := by obtain ⟨j, hj, g⟩ := hs; exact ⟨j, hj, g.congr (by omega) h⟩
   rw [pcs_seen hs, pcs_seen hs', ih]
  ·have hs' : ¬ Sn t' n K K := by
    rintro ⟨j, hj, g⟩;exact hs ⟨j, hj, g.congr (by omega) (fun a b ha hb => (h a b ha hb).symm)⟩
   rw [pcs_new hs, pcs_new hs', ih]
structure Walk (t : Nat → Nat → Bool) (n i : Nat) (S : Nat → Bool) (st : List Nat) : Prop where
 old : ∀ k, Sn t n i k → k < n → S k = true
 just : ∀ k, k < n → S k = true → Sn t n i k ∨ Rch t n i k
 first : S i = true
 stack : ∀ k ∈ st, k < n ∧ S k = true ∧ Rch t n i k
 next : ∀ a, a < n → S a = true → a ∉ st → ∀ k, k < n → t a k = true → S k = true
theorem Walk.start {t : Nat → Nat → Bool} {n i : Nat} {S : Nat → Bool} (hi : i < n) (hS : ∀ k, k < n → (S k = true ↔ Sn t n i k)) : Walk t n i (fun k => if k = i then true else S k) [i] := by
 refine ⟨fun k h hk => ?_, fun k hk h => ?_, by simp, fun k hk => ?_, fun a ha h hn k hk ht => ?_⟩
 ·split
  ·rfl
  ·exact (hS k hk).2 h
 ·split at h
  ·rename_i e; subst e; exact .inr .refl
  ·exact .inl ((hS k hk).1 h)
 ·simp only [List.mem_singleton] at hk; subst hk
  exact ⟨hi, by simp, .refl⟩
 ·have hne : a ≠ i := by simpa using hn
  rw [if_neg hne] at h
  split
  ·rfl
  ·exact (hS k hk).2 (((hS a ha).1 h).closed hk ht)
theorem Walk.done {t : Nat → Nat → Bool} {n i : Nat} {S : Nat → Bool} (h : Walk t n i S []) (hi : i < n) : ∀ k, k < n → (S k = true ↔ Sn t n (i + 1) k) := by
 intro k hk;rw [Sn.succ];refine ⟨h.just k hk, ?_⟩;rintro (h1 | h1)
 ·exact h.old k h1 hk
 ·have : ∀ k, Rch t n i k → S k = true := by
   intro k g
   induction g with
   | refl => exact h.first
   | step h1 h2 h3 ih => exact h.next _ (h1.lt hi) ih (by simp) _ h2 h3
  exact this k h1
structure Look (t : Nat → Nat → Bool) (n i a K : Nat) (S : Nat → Bool) (st : List Nat) : Prop where
 old : ∀ k, Sn t n i k → k < n → S k = true
 just : ∀ k, k < n → S k = true → Sn t n i k ∨ Rch t n i k
 first : S i = true
 stack : ∀ k ∈ st, k < n ∧ S k = true ∧ Rch t n i k
 next : ∀ b, b < n → S b = true → b ∉ st → b ≠ a → ∀ k, k < n → t b k = true → S k = true
 mine : ∀ k, k < K → k < n → t a k = true → S k = true
 at_ : a < n ∧ S a = true ∧ Rch t n i a
theorem Walk.look {t : Nat → Nat → Bool} {n i a : Nat} {S : Nat → Bool} {st : List Nat} (h : Walk t n i S (st ++ [a])) : Look t n i a 0 S st :=
  ⟨h.old, h.just, h.first, fun k hk => h.stack k (by simp [hk]), fun b hb hs hn hne k hk ht => h.next b hb hs (by simp [hn, hne]) k hk ht, fun k hk => by omega, h.stack a (by simp)⟩
theorem Look.skip {t : Nat → Nat → Bool} {n i a K : Nat} {S : Nat → Bool} {st : List Nat} (h : Look t n i a K S st) (hs : t a K = true → S K = true) : Look t n i a (K + 1) S st :=
  ⟨h.old, h.just, h.first, h.stack, h.next, fun k hk hn ht => by
   by_cases e : k = K
   ·subst e; exact hs ht
   ·exact h.mine k (by omega) hn ht, h.at_⟩
theorem Look.push {t : Nat → Nat → Bool} {n i a K : Nat} {S : Nat → Bool} {st : List Nat} (h : Look t n i a K S st) (hK : K < n) (ht : t a K = true) : Look t n i a (K + 1) (fun k => if k = K then true else S k) (st ++ [K]) := by
 have hr : Rch t n i K := .step h.at_.2.2 hK ht;refine ⟨fun k hk hn => ?_, fun k hk hs => ?_, ?_, fun k hk => ?_, fun b hb hs hn hne k hk hbk => ?_, fun k hk hn hak => ?_, ?_⟩
 ·split
  ·rfl
  ·exact h.old k hk hn
 ·split at hs
  ·rename_i e; subst e; exact .inr hr
  ·exact h.just k hk hs
 ·split
  ·rfl
  ·exact h.first
 ·rcases List.mem_append.1 hk with hk | hk
  ·obtain ⟨h1, h2, h3⟩ := h.stack k hk
   exact ⟨h1, by split <;> first | rfl | exact h2, h3⟩
  ·simp only [List.mem_singleton] at hk; subst hk
   exact ⟨hK, by simp, hr⟩
 ·have hbK : b ≠ K := fun e => hn (by simp [e])
  rw [if_neg hbK] at hs
  split
  ·rfl
  ·exact h.next b hb hs (fun e => hn (by simp [e])) hne k hk hbk
 ·split
  ·rfl
  ·rename_i e; exact h.mine k (by omega) hn hak
 ·exact ⟨h.at_.1, by split <;> first | rfl | exact h.at_.2.1, h.at_.2.2⟩
theorem Look.end_ {t : Nat → Nat → Bool} {n i a : Nat} {S : Nat → Bool} {st : List Nat} (h : Look t n i a n S st) : Walk t n i S st :=
  ⟨h.old, h.just, h.first, h.stack, fun b hb hs hn k hk ht => by
   by_cases e : b = a
   ·subst e; exact h.mine k hk hk ht
   ·exact h.next b hb hs hn e k hk ht⟩
def uns (n : Nat) (S : Nat → Bool) : Nat := (List.range n).countP fun k => !S k
theorem uns_le (n : Nat) (S : Nat → Bool) : uns n S ≤ n := by
 have := List.countP_le_length (p := fun k => !S k) (l := List.range n);rw [List.length_range] at this;exact this
theorem uns_push {S : Nat → Bool} {K : Nat} (hs : S K = false) : ∀ {n : Nat}, K < n → uns n (fun k => if k = K then true else S k) + 1 = uns n S
 | 0, h => by omega
 | n + 1, h => by
  unfold uns at *;rw [List.range_succ, List.countP_append, List.countP_append]
  by_cases e : K = n
  ·subst e
   have : (List.range K).countP (fun k => !(if k = K then true else S k)) = (List.range K).countP fun k => !S k := by
    refine List.countP_congr fun k hk => ?_
    rw [if_neg (by have := List.mem_range.1 hk; omega)]
   rw [this];simp [hs]
  ·have ih := uns_push (n := n) hs (by omega)
   unfold uns at ih
   have e2 : ([n] : List Nat).countP (fun k => !(if k = K then true else S k)) = ([n] : List Nat).countP fun k => !S k := by
    refine List.countP_congr fun k hk => ?_
    simp only [List.mem_singleton] at hk;rw [if_neg (by omega)]
   rw [e2];omega
open Go.ChangeShapes Go.WideShapes Go.ChangeAt Go.RowKit
structure Bx where
 x0 : Int
 y0 : Int
 z0 : Int
 x1 : Int
 y1 : Int
 z1 : Int
def bx0 : Bx := ⟨0, 0, 0, 0, 0, 0⟩
def bxc (b : Bx) : List Value := [.int .i64 b.x0, .int .i64 b.y0, .int .i64 b.z0, .int .i64 b.x1, .int .i64 b.y1, .int .i64 b.z1]
def bxv (b : Bx) : Value := .agg #[.int .i64 b.x0, .int .i64 b.y0, .int .i64 b.z0, .int .i64 b.x1, .int .i64 b.y1, .int .i64 b.z1]
theorem bxc_len (b : Bx) : (bxc b).length = 6 := rfl
def mvB (b : Bx) (x y z : Int) : Bx := ⟨b.x0 + x, b.y0 + y, b.z0 + z, b.x1 + x, b.y1 + y, b.z1 + z⟩
def bxOk (b : Bx) : Bool := decide (0 ≤ b.x0) && decide (0 ≤ b.y0) && decide (0 ≤ b.z0) && decide (b.x0 < b.x1) && decide (b.y0 < b.y1) && decide (b.z0 < b.z1) && decide (b.x1 ≤ 24) && decide (b.y1 ≤ 24) && decide (b.z1 ≤ 24)
theorem bxOk_iff {b : Bx} : bxOk b = true ↔ (0 ≤ b.x0 ∧ b.x0 < b.x1 ∧ b.x1 ≤ 24) ∧ (0 ≤ b.y0 ∧ b.y0 < b.y1 ∧ b.y1 ≤ 24) ∧ (0 ≤ b.z0 ∧ b.z0 < b.z1 ∧ b.z1 ≤ 24) := by
 unfold bxOk;simp only [Bool.and_eq_true, decide_eq_true_eq];omega
def bxS (m : Int) (b : Bx) : Prop := (-m ≤ b.x0 ∧ b.x0 ≤ m) ∧ (-m ≤ b.y0 ∧ b.y0 ≤ m) ∧ (-m ≤ b.z0 ∧ b.z0 ≤ m) ∧ (-m ≤ b.x1 ∧ b.x1 ≤ m) ∧ (-m ≤ b.y1 ∧ b.y1 ≤ m) ∧ (-m ≤ b.z1 ∧ b.z1 ≤ m)
def at3 (x y z : Nat) : Nat := (z * 24 + y) * 24 + x
def cx (k : Nat) : Nat := k % 24
def cy (k : Nat) : Nat := k / 24 % 24
def cz (k : Nat) : Nat := k / 576
theorem at3_lt {x y z : Nat} (hx : x < 24) (hy : y < 24) (hz : z < 24) : at3 x y z < 13824 := by unfold at3; omega
theorem at3_cx {x y z : Nat} (hx : x < 24) (hy : y < 24) : cx (at3 x y z) = x := by unfold at3 cx; omega
theorem at3_cy {x y z : Nat} (hx : x < 24) (hy : y < 24) : cy (at3 x y z) = y := by unfold at3 cy; omega
theorem at3_cz {x y z : Nat} (hx : x < 24) (hy : y < 24) : cz (at3 x y z) = z := by unfold at3 cz; omega
theorem at3_c (k : Nat) : at3 (cx k) (cy k) (cz k) = k := by unfold at3 cx cy cz; omega
theorem cx_lt (k : Nat) : cx k < 24 := by unfold cx; omega
theorem cy_lt (k : Nat) : cy k < 24 := by unfold cy; omega
theorem cz_lt {k : Nat} (h : k < 13824) : cz k < 24 := by unfold cz; omega
def inB (b : Bx) (k : Nat) : Bool := decide (b.x0 ≤ (cx k : Int)) && decide ((cx k : Int) < b.x1) && decide (b.y0 ≤ (cy k : Int)) && decide ((cy k : Int) < b.y1) && decide (b.z0 ≤ (cz k : Int)) && decide ((cz k : Int) < b.z1)
theorem inB_iff {b : Bx} {k : Nat} : inB b k = true ↔ (b.x0 ≤ (cx k : Int) ∧ (cx k : Int) < b.x1) ∧ (b.y0 ≤ (cy k : Int) ∧ (cy k : Int) < b.y1) ∧ (b.z0 ≤ (cz k : Int) ∧ (cz k : Int) < b.z1) := by
 unfold inB;simp only [Bool.and_eq_true, decide_eq_true_eq];omega
structure Cs where
 full : Nat → Bool
 by_ : Nat → Nat
def cs0 : Cs := ⟨fun _ => false, fun _ => 0⟩
def filP (b : Bx) (v : Bool) (n : Nat) (c : Cs) (K : Nat) : Cs := ⟨fun k => if (inB b k && decide (k < K)) = true then v else c.full k, fun k => if ((inB b k && decide (k < K)) && (c.full k != v)) = true then n else c.by_ k⟩
def fil (b : Bx) (v : Bool) (n : Nat) (c : Cs) : Cs := filP b v n c 13824
theorem filP_zero (b : Bx) (v : Bool) (n : Nat) (c : Cs) : filP b v n c 0 = c := by
 unfold filP;simp
theorem filP_gap {b : Bx} {K L : Nat} (v : Bool) (n : Nat) (c : Cs) (hKL : K ≤ L) (h : ∀ k, K ≤ k → k < L → inB b k = false) : filP b v n c K = filP b v n c L := by
 have e : ∀ k, (inB b k && decide (k < K)) = (inB b k && decide (k < L)) := by
  intro k
  by_cases h1 : k < K
  ·rw [dt h1, dt (show k < L by omega)]
  ·by_cases h2 : k < L
   ·rw [h k (by omega) h2]; rfl
   ·rw [df h1, df h2]
 unfold filP;simp only [e]
theorem filP_in {b : Bx} {K : Nat} (v : Bool) (n : Nat) (c : Cs) (h : inB b K = true) : (filP b v n c (K + 1)).full = (fun k => if k = K then v else (filP b v n c K).full k) ∧ (filP b v n c (K + 1)).by_ = (fun k => if k = K then (if (filP b v n c K).full K = v then (filP b v n c K).by_ K else n) else (filP b v n c K).by_ k) ∧ (filP b v n c K).full K = c.full K := by
 refine ⟨?_, ?_, ?_⟩
 ·funext k
  show (if _ then _ else _) = _
  by_cases e : k = K
  ·subst e; rw [h, if_pos (by simp), if_pos rfl]
  ·rw [if_neg e]
   show _ = (if _ then _ else _)
   have : decide (k < K + 1) = decide (k < K) := by rw [decide_eq_decide]; omega
   rw [this]
 ·funext k
  show (if _ then _ else _) = _
  by_cases e : k = K
  ·subst e
   rw [if_pos rfl];unfold filP;simp only [h, Nat.lt_irrefl, decide_false, Bool.and_false, Bool.false_and, Bool.false_eq_true, if_false, Nat.lt_succ_self, decide_true, Bool.and_self, Bool.true_and]
   cases c.full k <;> cases v <;> simp
  ·rw [if_neg e]
   show _ = (if _ then _ else _)
   have : decide (k < K + 1) = decide (k < K) := by rw [decide_eq_decide]; omega
   rw [this]
 ·unfold filP
  simp
theorem filP_row {b : Bx} (v : Bool) (n : Nat) (c : Cs) {y z x1 : Nat} (hx : b.x1 = (x1 : Int)) (h24 : x1 ≤ 24) (hy : y < 24) : filP b v n c ((z * 24 + y) * 24 + x1) = filP b v n c ((z * 24 + (y + 1)) * 24) := by
 refine filP_gap v n c (by omega) fun k h1 h2 => ?_
 rw [← Bool.not_eq_true, inB_iff];rintro ⟨⟨_, h3⟩, _⟩;unfold cx at h3;omega
theorem filP_rowL {b : Bx} (v : Bool) (n : Nat) (c : Cs) {y z x0 : Nat} (hx : b.x0 = (x0 : Int)) (h24 : x0 ≤ 24) : filP b v n c ((z * 24 + y) * 24) = filP b v n c ((z * 24 + y) * 24 + x0) := by
 refine filP_gap v n c (by omega) fun k h1 h2 => ?_
 rw [← Bool.not_eq_true, inB_iff];rintro ⟨⟨h3, _⟩, _⟩;unfold cx at h3;omega
theorem filP_lay {b : Bx} (v : Bool) (n : Nat) (c : Cs) {z y1 : Nat} (hy : b.y1 = (y1 : Int)) (h24 : y1 ≤ 24) : filP b v n c ((z * 24 + y1) * 24) = filP b v n c ((z + 1) * 576) := by
 refine filP_gap v n c (by omega) fun k h1 h2 => ?_
 rw [← Bool.not_eq_true, inB_iff];rintro ⟨_, ⟨_, h3⟩, _⟩;unfold cy at h3;omega
theorem filP_layL {b : Bx} (v : Bool) (n : Nat) (c : Cs) {z y0 : Nat} (hy : b.y0 = (y0 : Int)) (h24 : y0 ≤ 24) : filP b v n c (z * 576) = filP b v n c ((z * 24 + y0) * 24) := by
 refine filP_gap v n c (by omega) fun k h1 h2 => ?_
 rw [← Bool.not_eq_true, inB_iff];rintro ⟨_, ⟨h3, _⟩, _⟩;unfold cy at h3;omega
theorem filP_top {b : Bx} (v : Bool) (n : Nat) (c : Cs) {z1 : Nat} (hz : b.z1 = (z1 : Int)) (h24 : z1 ≤ 24) : filP b v n c (z1 * 576) = fil b v n c := by
 refine filP_gap v n c (by omega) fun k h1 h2 => ?_
 rw [← Bool.not_eq_true, inB_iff];rintro ⟨_, _, ⟨_, h3⟩⟩;unfold cz at h3;omega
theorem filP_bot {b : Bx} (v : Bool) (n : Nat) (c : Cs) {z0 : Nat} (hz : b.z0 = (z0 : Int)) : c = filP b v n c (z0 * 576) := by
 rw [← filP_gap (K := 0) v n c (by omega) fun k h1 h2 => ?_, filP_zero];rw [← Bool.not_eq_true, inB_iff];rintro ⟨_, _, ⟨h3, _⟩⟩;unfold cz at h3;omega
theorem inB_at {b : Bx} {x y z : Nat} (hx : b.x0 ≤ (x : Int) ∧ (x : Int) < b.x1) (hy : b.y0 ≤ (y : Int) ∧ (y : Int) < b.y1) (hz : b.z0 ≤ (z : Int) ∧ (z : Int) < b.z1) (h1 : x < 24) (h2 : y < 24) : inB b ((z * 24 + y) * 24 + x) = true := by
 have e : (z * 24 + y) * 24 + x = at3 x y z := rfl;rw [e, inB_iff, at3_cx h1 h2, at3_cy h1 h2, at3_cz h1 h2];exact ⟨hx, hy, hz⟩
def stp : Nat → Int × Int × Int
 | 1 => (-1, 0, 0)
 | 2 => (1, 0, 0)
 | 3 => (0, -1, 0)
 | 4 => (0, 1, 0)
 | 5 => (0, 0, -1)
 | _ => (0, 0, 1)
def opp (s : Nat) : Nat := if s % 2 = 1 then s + 1 else s - 1
theorem opp_opp {s : Nat} (h : 1 ≤ s) : opp (opp s) = s := by unfold opp; split <;> split <;> omega
def nbr (k : Nat) : Nat → Option Nat
 | 1 => if cx k = 0 then none else some (k - 1)
 | 2 => if cx k = 23 then none else some (k + 1)
 | 3 => if cy k = 0 then none else some (k - 24)
 | 4 => if cy k = 23 then none else some (k + 24)
 | 5 => if cz k = 0 then none else some (k - 576)
 | _ => if cz k = 23 then none else some (k + 576)
theorem nbr_lt {k s m : Nat} (hk : k < 13824) (h : nbr k s = some m) : m < 13824 := by
 have key : ∀ (p : Prop) [Decidable p] (j : Nat), (if p then none else some j) = some m → ¬ p ∧ j = m := by
  intro p _ j h
  by_cases hp : p
  ·rw [if_pos hp] at h; cases h
  ·rw [if_neg hp] at h; exact ⟨hp, Option.some.inj h⟩
 unfold nbr at h
 split at h <;> (obtain ⟨h1, rfl⟩ := key _ _ h; simp only [cx, cy, cz] at h1; omega)
def flt (k : Nat) : Nat → Bx
 | 1 => ⟨cx k, cy k, cz k, cx k, (cy k : Int) + 1, (cz k : Int) + 1⟩
 | 2 => ⟨(cx k : Int) + 1, cy k, cz k, (cx k : Int) + 1, (cy k : Int) + 1, (cz k : Int) + 1⟩
 | 3 => ⟨cx k, cy k, cz k, (cx k : Int) + 1, cy k, (cz k : Int) + 1⟩
 | 4 => ⟨cx k, (cy k : Int) + 1, cz k, (cx k : Int) + 1, (cy k : Int) + 1, (cz k : Int) + 1⟩
 | 5 => ⟨cx k, cy k, cz k, (cx k : Int) + 1, (cy k : Int) + 1, cz k⟩
 | _ => ⟨cx k, cy k, (cz k : Int) + 1, (cx k : Int) + 1, (cy k : Int) + 1, (cz k : Int) + 1⟩
structure Sq where
 nb : Nat
 sd : Nat
 bx : Bx
def sqc (q : Sq) : List Value := .int .i64 (q.nb : Int) :: .int .i64 (q.sd : Int) :: bxc q.bx
theorem sqc_len (q : Sq) : (sqc q).length = 8 := rfl
def sqA (c : Cs) (k s : Nat) : Option Sq := match nbr k s with
 | none => some ⟨c.by_ k, s, flt k s⟩
 | some m => if c.full m = true then none else some ⟨max (c.by_ k) (c.by_ m), s, flt k s⟩
def sqC (c : Cs) (k n : Nat) : List Sq := if c.full k = true then (List.range n).filterMap fun s => sqA c k (s + 1) else []
def sqs (c : Cs) (K : Nat) : List Sq := (List.range K).flatMap fun k => sqC c k 6
theorem sqs_succ (c : Cs) (K : Nat) : sqs c (K + 1) = sqs c K ++ sqC c K 6 := by simp [sqs, List.range_succ]
theorem sqC_zero (c : Cs) (k : Nat) : sqC c k 0 = [] := by unfold sqC; split <;> rfl
theorem sqC_succ {c : Cs} {k : Nat} (h : c.full k = true) (n : Nat) : sqC c k (n + 1) = sqC c k n ++ (sqA c k (n + 1)).toList := by
 unfold sqC;rw [if_pos h, if_pos h, List.range_succ, List.filterMap_append]
 congr 1
theorem sqC_empty {c : Cs} {k : Nat} (h : c.full k = false) (n : Nat) : sqC c k n = [] := by unfold sqC; rw [if_neg (by rw [h]; simp)]
theorem sqC_len (c : Cs) (k n : Nat) : (sqC c k n).length ≤ n := by
 unfold sqC
 split
 ·have := List.length_filterMap_le (fun s => sqA c k (s + 1)) (List.range n)
  rw [List.length_range] at this;exact this
 ·simp
theorem sqs_len (c : Cs) : ∀ K, (sqs c K).length ≤ 6 * K
 | 0 => by simp [sqs]
 | K + 1 => by
  have := sqs_len c K;have h2 := sqC_len c K 6;rw [sqs_succ, List.length_append];omega
def tld (pk : Nat → Bool) (q : Sq) : Sq := if pk q.nb = true then ⟨q.nb, opp q.sd, q.bx⟩ else q
def ofO (l : List Sq) (n s : Nat) : List Bx := (l.filter fun q => q.nb == n && q.sd == s).map Sq.bx
theorem ofO_take {l : List Sq} {i : Nat} {q : Sq} (h : l[i]? = some q) (n s : Nat) : ofO (l.take (i + 1)) n s = ofO (l.take i) n s ++ (if (q.nb == n && q.sd == s) = true then [q.bx] else []) := by
 unfold ofO;rw [List.take_add_one, h, List.filter_append, List.map_append]
 cases e : (q.nb == n && q.sd == s) <;> simp [List.filter_cons, e]
def arn (a b : Bx) : Bx := ⟨min a.x0 b.x0, min a.y0 b.y0, min a.z0 b.z0, max a.x1 b.x1, max a.y1 b.y1, max a.z1 b.z1⟩
theorem arn_self (a : Bx) : arn a a = a := by unfold arn; simp
def hul : List Bx → Bx
 | [] => bx0
 | b :: l => l.foldl arn b
theorem hul_one (b : Bx) : hul [b] = b := rfl
theorem hul_app {l : List Bx} (h : l ≠ []) (b : Bx) : hul (l ++ [b]) = arn (hul l) b := by
 cases l with
 | nil => exact (h rfl).elim
 | cons a l => simp [hul, List.foldl_append]
def absI (x : Int) : Int := if x < 0 then -x else x
def tch (a b : Bx) : Bool :=
 decide (absI (a.x0 - b.x0) + absI (a.y0 - b.y0) + absI (a.z0 - b.z0) = 1) && !((decide (absI (a.x0 - b.x0) = 1) && decide (a.x0 = a.x1)) || (decide (absI (a.y0 - b.y0) = 1) && decide (a.y0 = a.y1)) || (decide (absI (a.z0 - b.z0) = 1) && decide (a.z0 = a.z1)))
def tcl (l : List Bx) (i k : Nat) : Bool := tch (l.getD i bx0) (l.getD k bx0)
noncomputable def pcsL (l : List Bx) : Nat := pcs (tcl l) l.length l.length
def ftB (f : Ft) : Bx := ⟨f.x0, f.y0, f.z0, f.x1, f.y1, f.z1⟩
def ofF (fs : List Ft) (f : Ft) : Ft := fs.getD ((findN fs f.ov).getD 0) ft0
def kdF (fs : List Ft) (f : Ft) : Int := if f.kd = 3 then (ofF fs f).kd else f.kd
def bxsN (fs : List Ft) (f : Ft) (n : Nat) : List Bx := (List.range n).map fun (t : Nat) => mvB (ftB (ofF fs f)) (((t : Int) + 1) * f.dx) (((t : Int) + 1) * f.dy) (((t : Int) + 1) * f.dz)
def bxs (fs : List Ft) (f : Ft) : List Bx := if f.kd = 3 then bxsN fs f f.ct.toNat else [ftB f]
structure Bd where
 done : List Nat
 cs : Cs
def bd0 : Bd := ⟨[], cs0⟩
def byL (fs : List Ft) (done : List Nat) (s : ByteArray) : Nat → Nat
 | 0 => 0
 | n + 1 => if sEq (fs.getD (done.getD n 0) ft0).nm s = true then n + 1 else byL fs done s n
def byOf (fs : List Ft) (done : List Nat) (s : ByteArray) : Nat := byL fs done s done.length
def pkt (fs : List Ft) (done : List Nat) (n : Nat) : Bool := decide (n ≠ 0) && decide (kdF fs (fs.getD (done.getD (n - 1) 0) ft0) = 2)
def tlds (fs : List Ft) (B : Bd) : List Sq := (sqs B.cs 13824).map (tld (pkt fs B.done))
noncomputable def stood (fs : List Ft) (B : Bd) (f : Ft) : (Int × List ByteArray) ⊕ List Bx :=
 if emp f.on = true then .inr (bxs fs f)
 else
  let l := ofO (tlds fs B) (byOf fs B.done f.on) f.sd.toNat
  if l = [] then .inl (8, [f.nm, f.on])
  else if 1 < pcsL l then .inl (13, [f.nm, f.on])
  else .inr [mvB (ftB f) (hul l).x0 (hul l).y0 (hul l).z0]
noncomputable def doF (fs : List Ft) (B : Bd) (i : Nat) : (Int × List ByteArray) ⊕ Bd :=
 match stood fs B (fs.getD i ft0) with
 | .inl x => .inl x
 | .inr l => if l.any (fun b => !bxOk b) = true then .inl (5, [(fs.getD i ft0).nm])
  else .inr ⟨B.done ++ [i], l.foldl (fun c b => fil b (decide (kdF fs (fs.getD i ft0) = 1)) (B.done.length + 1) c) B.cs⟩
noncomputable def runB (fs : List Ft) (left : Nat → Bool) : List Nat → Bd → (Int × List ByteArray) ⊕ Bd
 | [], B => .inr B
 | k :: l, B => if left k = true then runB fs left l B else match doF fs B k with
  | .inl x => .inl x
  | .inr B' => runB fs left l B'
theorem runB_app (fs : List Ft) (left : Nat → Bool) : ∀ (l m : List Nat) (B : Bd), runB fs left (l ++ m) B = match runB fs left l B with | .inl x => .inl x | .inr B' => runB fs left m B'
 | [], m, B => rfl
 | k :: l, m, B => by
  show (if left k = true then runB fs left (l ++ m) B else match doF fs B k with | .inl x => .inl x | .inr B' => runB fs left (l ++ m) B') = match (if left k = true then runB fs left l B else match doF fs B k with | .inl x => .inl x | .inr B' => runB fs left l B') with | .inl x => .inl x | .inr B' => runB fs left m B'
  split
  ·exact runB_app fs left l m B
  ·cases doF fs B k with
   | inl x => rfl
   | inr B' => exact runB_app fs left l m B'
structure Ivt (pk : Nat → Bool) (m : Nat) (c : Cs) : Prop where
 le : ∀ k, k < 13824 → c.by_ k ≤ m
 on : ∀ k, k < 13824 → c.full k = true → 1 ≤ c.by_ k ∧ pk (c.by_ k) = false
 off : ∀ k, k < 13824 → c.full k = false → c.by_ k = 0 ∨ pk (c.by_ k) = true
theorem Ivt.start (pk : Nat → Bool) : Ivt pk 0 cs0 := ⟨fun _ _ => Nat.le_refl _, fun _ _ h => (by cases h), fun _ _ _ => .inl rfl⟩
theorem Ivt.grow {pk pk' : Nat → Bool} {m : Nat} {c : Cs} (h : Ivt pk m c) (hp : ∀ n, 1 ≤ n → n ≤ m → pk' n = pk n) : Ivt pk' (m + 1) c :=
  ⟨fun k hk => by have := h.le k hk; omega, fun k hk hf => by obtain ⟨a, b⟩ := h.on k hk hf; exact ⟨a, by rw [hp _ a (h.le k hk)]; exact b⟩, fun k hk hf => by
   by_cases h0 : c.by_ k = 0
   ·exact .inl h0
   ·rcases h.off k hk hf with a | a
    ·exact (h0 a).elim
    ·exact .inr (by rw [hp _ (by omega) (h.le k hk)]; exact a)⟩
theorem Ivt.put {pk : Nat → Bool} {m : Nat} {c : Cs} (h : Ivt pk m c) (b : Bx) (v : Bool) (hm : 1 ≤ m) (hv : pk m = !v) : Ivt pk m (fil b v m c) := by
 have e1 : ∀ k, k < 13824 → (fil b v m c).full k = if inB b k = true then v else c.full k := fun k hk => by
  show (if _ then _ else _) = _
  rw [dt hk, Bool.and_true]
 have e2 : ∀ k, k < 13824 → (fil b v m c).by_ k = if (inB b k && (c.full k != v)) = true then m else c.by_ k := fun k hk => by
  show (if _ then _ else _) = _
  rw [dt hk, Bool.and_true]
 refine ⟨fun k hk => ?_, fun k hk hf => ?_, fun k hk hf => ?_⟩
 ·rw [e2 k hk]
  split
  ·exact Nat.le_refl _
  ·exact h.le k hk
 ·rw [e1 k hk] at hf
  rw [e2 k hk]
  cases hb : inB b k with
  | false =>
   rw [hb] at hf;simp only [Bool.false_eq_true, if_false, Bool.false_and] at hf ⊢;exact h.on k hk hf
  | true =>
   rw [hb] at hf;simp only [if_true, Bool.true_and] at hf ⊢;subst hf
   split
   ·exact ⟨hm, by rw [hv]; rfl⟩
   ·rename_i e; exact h.on k hk (by simpa using e)
 ·rw [e1 k hk] at hf
  rw [e2 k hk]
  cases hb : inB b k with
  | false =>
   rw [hb] at hf;simp only [Bool.false_eq_true, if_false, Bool.false_and] at hf ⊢;exact h.off k hk hf
  | true =>
   rw [hb] at hf;simp only [if_true, Bool.true_and] at hf ⊢;subst hf
   split
   ·exact .inr (by rw [hv]; rfl)
   ·rename_i e; exact h.off k hk (by simpa using e)
def sqP (c : Cs) (k s : Nat) : Option Sq := match nbr k s with
 | none => some ⟨c.by_ k, s, flt k s⟩
 | some m => if c.full m = true then none else some (if c.by_ k < c.by_ m then ⟨c.by_ m, opp s, flt k s⟩ else ⟨c.by_ k, s, flt k s⟩)
theorem sqP_tld {pk : Nat → Bool} {n : Nat} {c : Cs} (h : Ivt pk n c) {k s : Nat} (hk : k < 13824) (hf : c.full k = true) : (sqA c k s).map (tld pk) = sqP c k s := by
 unfold sqA sqP;obtain ⟨a1, a2⟩ := h.on k hk hf
 cases e : nbr k s with
 | none => simp [tld, a2]
 | some m =>
  have hm := nbr_lt hk e;simp only
  cases g : c.full m with
  | true => simp
  | false =>
   simp only [Bool.false_eq_true, if_false, Option.map_some, Option.some.injEq]
   rcases h.off m hm g with b | b
   ·rw [b, Nat.max_zero, if_neg (by omega)]
    simp [tld, a2]
   ·by_cases hlt : c.by_ k < c.by_ m
    ·rw [if_pos hlt, Nat.max_eq_right (by omega)]
     simp [tld, b]
    ·have hne : c.by_ k ≠ c.by_ m := fun q => by rw [q, b] at a2; cases a2
     rw [if_neg hlt, Nat.max_eq_left (by omega)];simp [tld, a2]
def sqPC (c : Cs) (k n : Nat) : List Sq := if c.full k = true then (List.range n).filterMap fun s => sqP c k (s + 1) else []
def sqPs (c : Cs) (K : Nat) : List Sq := (List.range K).flatMap fun k => sqPC c k 6
theorem sqPs_tld {pk : Nat → Bool} {n : Nat} {c : Cs} (h : Ivt pk n c) : ∀ K, K ≤ 13824 → (sqs c K).map (tld pk) = sqPs c K
 | 0, _ => rfl
 | K + 1, hK => by
  have ih := sqPs_tld h K (by omega);have e : sqPs c (K + 1) = sqPs c K ++ sqPC c K 6 := by simp [sqPs, List.range_succ]
  rw [sqs_succ, List.map_append, ih, e]
  congr 1
  unfold sqC sqPC
  cases g : c.full K with
  | false => rfl
  | true =>
   simp only [if_true];rw [List.map_filterMap]
   congr 1
   funext s
   exact sqP_tld h (by omega) g
theorem mem_sqs {c : Cs} {K : Nat} {q : Sq} (h : q ∈ sqs c K) : ∃ k s, k < K ∧ 1 ≤ s ∧ s ≤ 6 ∧ c.full k = true ∧ sqA c k s = some q := by
 unfold sqs at h;obtain ⟨k, hk, hq⟩ := List.mem_flatMap.1 h;unfold sqC at hq
 split at hq
 ·rename_i hf
  obtain ⟨s, hs, e⟩ := List.mem_filterMap.1 hq;exact ⟨k, s + 1, List.mem_range.1 hk, by omega, by have := List.mem_range.1 hs; omega, hf, e⟩
 ·cases hq
theorem sqA_bx {c : Cs} {k s : Nat} {q : Sq} (h : sqA c k s = some q) : q.sd = s ∧ q.bx = flt k s := by
 unfold sqA at h
 split at h
 ·simp only [Option.some.injEq] at h; subst h; exact ⟨rfl, rfl⟩
 ·split at h
  ·cases h
  ·simp only [Option.some.injEq] at h; subst h; exact ⟨rfl, rfl⟩
theorem sqA_nbr {c : Cs} {k s m : Nat} {q : Sq} (h : sqA c k s = some q) (hm : nbr k s = some m) : c.full m = false := by
 unfold sqA at h;rw [hm] at h;simp only at h
 split at h
 ·cases h
 ·rename_i e; simpa using e
theorem flt_inj {k k' s : Nat} (h : flt k s = flt k' s) : k = k' := by
 have key : (cx k : Int) = cx k' ∧ (cy k : Int) = cy k' ∧ (cz k : Int) = cz k' := by
  unfold flt at h
  split at h <;> (simp only [Bx.mk.injEq] at h; omega)
 rw [← at3_c k, ← at3_c k', show cx k = cx k' by omega, show cy k = cy k' by omega, show cz k = cz k' by omega]
end Go.Proofs.YtkiplmabjeadgaaGreat
