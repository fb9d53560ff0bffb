/- The law for a statement that draws its order, where an edge that binds no order may point forward. -/
import Derived.Test.YtkiplmabjeadgaaGreatPcMathQ
import Derived.Test.YtkiplmabjeadgaaGreatFoMathQ
import Derived.Lib.MinMax
import Derived.Test.YtkiplmabjeadgaaGreatBaseQ
import Derived.Deep.DrawnRows
namespace Go.Proofs.YtkiplmabjeadgaaGreat
set_option maxRecDepth 100000
set_option maxHeartbeats 16000000
open Go.ChangeShapes Go.WideShapes Go.ChangeAt Go.RowKit
set_option linter.unusedVariables false
set_option linter.unusedSimpArgs false
def near (a : Bx) (w : Nat) : Bx := mvB a (stp w).1 (stp w).2.1 (stp w).2.2
theorem ex6 {P : Nat → Prop} : (∃ w, 1 ≤ w ∧ w ≤ 6 ∧ P w) ↔ P 1 ∨ P 2 ∨ P 3 ∨ P 4 ∨ P 5 ∨ P 6 := by
 constructor
 ·rintro ⟨w, h1, h2, h⟩
  have : w = 1 ∨ w = 2 ∨ w = 3 ∨ w = 4 ∨ w = 5 ∨ w = 6 := by omega
  rcases this with rfl | rfl | rfl | rfl | rfl | rfl
  ·exact .inl h
  ·exact .inr (.inl h)
  ·exact .inr (.inr (.inl h))
  ·exact .inr (.inr (.inr (.inl h)))
  ·exact .inr (.inr (.inr (.inr (.inl h))))
  ·exact .inr (.inr (.inr (.inr (.inr h))))
 ·rintro (h | h | h | h | h | h)
  ·exact ⟨1, by omega, by omega, h⟩
  ·exact ⟨2, by omega, by omega, h⟩
  ·exact ⟨3, by omega, by omega, h⟩
  ·exact ⟨4, by omega, by omega, h⟩
  ·exact ⟨5, by omega, by omega, h⟩
  ·exact ⟨6, by omega, by omega, h⟩
def stepC (k k' w : Nat) : Prop := (cx k' : Int) = cx k + (stp w).1 ∧ (cy k' : Int) = cy k + (stp w).2.1 ∧ (cz k' : Int) = cz k + (stp w).2.2
theorem nbr_step {k k' s : Nat} (hs : 1 ≤ s ∧ s ≤ 6) (hk' : k' < 13824) (h : stepC k k' s) : nbr k s = some k' := by
 obtain ⟨h1, h2, h3⟩ := h;have e := at3_c k;have e' := at3_c k';have a1 := cx_lt k';have a2 := cy_lt k';have a3 := cz_lt hk';have hsv : s = 1 ∨ s = 2 ∨ s = 3 ∨ s = 4 ∨ s = 5 ∨ s = 6 := by omega
 have key : ∀ (p : Prop) [Decidable p] (j : Nat), ¬ p → j = k' → (if p then none else some j) = some k' := by
  intro p _ j h1 h2;rw [if_neg h1, h2]
 unfold at3 at e e'
 rcases hsv with rfl | rfl | rfl | rfl | rfl | rfl
 all_goals
  simp only [stp] at h1 h2 h3;simp only [nbr];refine key _ _ (by omega) (by omega)
theorem flt_step {k k' s : Nat} (a b c : Int) : flt k' s = mvB (flt k s) a b c ↔ ((cx k' : Int) = cx k + a ∧ (cy k' : Int) = cy k + b ∧ (cz k' : Int) = cz k + c) := by
 unfold flt mvB
 split
 all_goals
  simp only [Bx.mk.injEq];constructor
  ·rintro ⟨h1, h2, h3, h4, h5, h6⟩; exact ⟨by omega, by omega, by omega⟩
  ·rintro ⟨h1, h2, h3⟩; exact ⟨by omega, by omega, by omega, by omega, by omega, by omega⟩
theorem near_iff {k k' s w : Nat} : flt k' s = near (flt k s) w ↔ stepC k k' w := flt_step _ _ _
theorem abs_cases (d : Int) : ∃ p, absI d = p ∧ 0 ≤ p ∧ (p = d ∨ p = -d) := ⟨_, rfl, by unfold absI; split <;> omega, by unfold absI; split <;> omega⟩
def acr (k k' s : Nat) : Prop := if s = 1 ∨ s = 2 then cx k = cx k' else if s = 3 ∨ s = 4 then cy k = cy k' else cz k = cz k'
theorem tch_iff {k k' s : Nat} (hs : 1 ≤ s ∧ s ≤ 6) : tch (flt k s) (flt k' s) = true ↔ absI ((cx k : Int) - cx k') + absI ((cy k : Int) - cy k') + absI ((cz k : Int) - cz k') = 1 ∧ acr k k' s := by
 have : s = 1 ∨ s = 2 ∨ s = 3 ∨ s = 4 ∨ s = 5 ∨ s = 6 := by omega
 have q : ∀ (a b : Int), (a + 1) - (b + 1) = a - b := by intro a b; omega
 obtain ⟨p1, e1, p10, p1c⟩ := abs_cases ((cx k : Int) - cx k');obtain ⟨p2, e2, p20, p2c⟩ := abs_cases ((cy k : Int) - cy k');obtain ⟨p3, e3, p30, p3c⟩ := abs_cases ((cz k : Int) - cz k');unfold tch acr;simp only [Bool.and_eq_true, Bool.not_eq_true', Bool.or_eq_false_iff, Bool.and_eq_false_iff, decide_eq_true_eq, decide_eq_false_iff_not]
 rcases this with rfl | rfl | rfl | rfl | rfl | rfl
 all_goals
  simp only [flt, q, e1, e2, e3];simp only [Nat.reduceEqDiff, or_self, or_true, true_or, or_false, false_or, if_true, if_false, not_true_eq_false];omega
theorem tch_flt {k k' s : Nat} (hk : k < 13824) (hk' : k' < 13824) (hs : 1 ≤ s ∧ s ≤ 6) (h1 : nbr k s ≠ some k') (h2 : nbr k' s ≠ some k) : tch (flt k s) (flt k' s) = true ↔ ∃ w, 1 ≤ w ∧ w ≤ 6 ∧ flt k' s = near (flt k s) w := by
 have n1 : ¬ stepC k k' s := fun h => h1 (nbr_step hs hk' h)
 have n2 : ¬ stepC k' k s := fun h => h2 (nbr_step hs hk h)
 rw [tch_iff hs, ex6];simp only [near_iff];obtain ⟨p1, e1, p10, p1c⟩ := abs_cases ((cx k : Int) - cx k');obtain ⟨p2, e2, p20, p2c⟩ := abs_cases ((cy k : Int) - cy k');obtain ⟨p3, e3, p30, p3c⟩ := abs_cases ((cz k : Int) - cz k');rw [e1, e2, e3];have hsv : s = 1 ∨ s = 2 ∨ s = 3 ∨ s = 4 ∨ s = 5 ∨ s = 6 := by omega
 constructor
 ·rintro ⟨hsum, _⟩
  have : p1 = 1 ∨ p2 = 1 ∨ p3 = 1 := by omega
  rcases this with e | e | e
  ·have : (cx k' : Int) = cx k + -1 ∨ (cx k' : Int) = cx k + 1 := by omega
   rcases this with g | g
   ·exact .inl ⟨g, by simp only [stp]; omega, by simp only [stp]; omega⟩
   ·exact .inr (.inl ⟨g, by simp only [stp]; omega, by simp only [stp]; omega⟩)
  ·have : (cy k' : Int) = cy k + -1 ∨ (cy k' : Int) = cy k + 1 := by omega
   rcases this with g | g
   ·exact .inr (.inr (.inl ⟨by simp only [stp]; omega, g, by simp only [stp]; omega⟩))
   ·exact .inr (.inr (.inr (.inl ⟨by simp only [stp]; omega, g, by simp only [stp]; omega⟩)))
  ·have : (cz k' : Int) = cz k + -1 ∨ (cz k' : Int) = cz k + 1 := by omega
   rcases this with g | g
   ·exact .inr (.inr (.inr (.inr (.inl ⟨by simp only [stp]; omega, by simp only [stp]; omega, g⟩))))
   ·exact .inr (.inr (.inr (.inr (.inr ⟨by simp only [stp]; omega, by simp only [stp]; omega, g⟩))))
 ·intro h
  unfold stepC at n1 n2 h;unfold acr
  rcases hsv with rfl | rfl | rfl | rfl | rfl | rfl <;> rcases h with h | h | h | h | h | h
  all_goals
   simp only [stp] at n1 n2 h;obtain ⟨g1, g2, g3⟩ := h;refine ⟨by omega, ?_⟩;simp only [Nat.reduceEqDiff, or_self, or_true, true_or, or_false, false_or, if_true, if_false];omega
structure Fce (c : Cs) (σ : Nat) (l : List Bx) : Prop where
 side : 1 ≤ σ ∧ σ ≤ 6
 mem : ∀ b ∈ l, ∃ k, k < 13824 ∧ c.full k = true ∧ (∀ m, nbr k σ = some m → c.full m = false) ∧ b = flt k σ
 nodup : l.Nodup
theorem sqC_side (c : Cs) (k n s : Nat) : ((sqC c k n).filter fun q => q.sd == s).length ≤ 1 ∧ ∀ q ∈ sqC c k n, 1 ≤ q.sd ∧ q.sd ≤ n := by
 by_cases hf : c.full k = true
 ·induction n with
  | zero => rw [sqC_zero]; simp
  | succ n ih =>
   rw [sqC_succ hf, List.filter_append, List.length_append];obtain ⟨i1, i2⟩ := ih
   cases e : sqA c k (n + 1) with
   | none => simp only [Option.toList_none, List.filter_nil, List.length_nil, List.append_nil]; exact ⟨i1, fun q hq => by have := i2 q hq; omega⟩
   | some q =>
    have hq := (sqA_bx e).1;refine ⟨?_, fun p hp => ?_⟩
    ·by_cases hs : s = n + 1
     ·have : (sqC c k n).filter (fun q => q.sd == s) = [] := by
       rw [List.filter_eq_nil_iff];intro p hp;have := i2 p hp;simp;omega
      rw [this];have := List.length_filter_le (fun q : Sq => q.sd == s) [q]
      simpa using this
     ·have : (some q).toList.filter (fun q => q.sd == s) = [] := by
       rw [Option.toList_some, List.filter_cons, if_neg (by rw [hq]; simp; omega)]; rfl
      rw [this]
      simpa using i1
    ·rcases List.mem_append.1 hp with h | h
     ·have := i2 p h; omega
     ·simp only [Option.toList_some, List.mem_singleton] at h
      subst h;omega
 ·rw [sqC_empty (by simpa using hf)]
  simp
theorem side_nodup (c : Cs) (s : Nat) : ∀ K, ((sqs c K).filter fun q => q.sd == s).Pairwise fun p q => p.bx ≠ q.bx
 | 0 => by simp [sqs]
 | K + 1 => by
  rw [sqs_succ, List.filter_append];refine List.pairwise_append.2 ⟨side_nodup c s K, ?_, ?_⟩
  ·have := (sqC_side c K 6 s).1
   generalize (sqC c K 6).filter (fun q => q.sd == s) = X at this ⊢
   match X, this with
   | [], _ => exact List.Pairwise.nil
   | [q], _ => exact List.pairwise_singleton _ _
   | _ :: _ :: _, h => simp at h
  ·intro p hp q hq e
   obtain ⟨hp1, hp2⟩ := List.mem_filter.1 hp;obtain ⟨hq1, hq2⟩ := List.mem_filter.1 hq;obtain ⟨k, s1, hk, _, _, _, h1⟩ := mem_sqs hp1;have : q ∈ sqs c (K + 1) := by rw [sqs_succ]; exact List.mem_append.2 (.inr hq1)
   unfold sqC at hq1
   split at hq1
   ·obtain ⟨s2, _, h2⟩ := List.mem_filterMap.1 hq1
    obtain ⟨a1, a2⟩ := sqA_bx h1;obtain ⟨b1, b2⟩ := sqA_bx h2;have c1 : p.sd = s := by simpa using hp2
    have c2 : q.sd = s := by simpa using hq2
    rw [a2, b2, show s1 = s by omega, show s2 + 1 = s by omega] at e;have := flt_inj e;omega
   ·cases hq1
theorem face_of {c : Cs} {pk : Nat → Bool} {n s : Nat} (hs : 1 ≤ s ∧ s ≤ 6) : Fce c (if pk n = true then opp s else s) (ofO ((sqs c 13824).map (tld pk)) n s) := by
 have ho : ∀ q : Sq, ((tld pk q).nb == n && (tld pk q).sd == s) = true → q.nb = n := by
  intro q h;simp only [Bool.and_eq_true, beq_iff_eq] at h;unfold tld at h
  split at h
  ·exact h.1
  ·exact h.1
 have hsd : ∀ q : Sq, (1 ≤ q.sd ∧ q.sd ≤ 6) → ((tld pk q).nb == n && (tld pk q).sd == s) = true → q.sd = if pk n = true then opp s else s := by
  intro q hq h;have hn := ho q h;simp only [Bool.and_eq_true, beq_iff_eq] at h;unfold tld at h;rw [hn] at h
  split
  ·rename_i e
   rw [if_pos e] at h;rw [← h.2, opp_opp hq.1]
  ·rename_i e
   rw [if_neg e] at h;exact h.2
 have hbx : ∀ q : Sq, (tld pk q).bx = q.bx := by intro q; unfold tld; split <;> rfl
 have hop : 1 ≤ opp s ∧ opp s ≤ 6 := by unfold opp; split <;> omega
 refine ⟨by split; exact hop; exact hs, ?_, ?_⟩
 ·intro b hb
  unfold ofO at hb;obtain ⟨q', hq', rfl⟩ := List.mem_map.1 hb;obtain ⟨hq1, hq2⟩ := List.mem_filter.1 hq';obtain ⟨q, hq, rfl⟩ := List.mem_map.1 hq1;obtain ⟨k, s1, hk, h1, h6, hf, ha⟩ := mem_sqs hq;obtain ⟨a1, a2⟩ := sqA_bx ha;have := hsd q (by omega) hq2;rw [hbx, ← this, a1];exact ⟨k, hk, hf, fun m hm => sqA_nbr ha hm, a2⟩
 ·unfold ofO
  rw [List.filter_map, List.map_map];have e : (Sq.bx ∘ tld pk) = Sq.bx := by funext q; exact hbx q
  rw [e];have hp := side_nodup c (if pk n = true then opp s else s) 13824
  have e2 : ((sqs c 13824).filter ((fun q : Sq => q.nb == n && q.sd == s) ∘ tld pk)) = ((sqs c 13824).filter fun q => q.sd == (if pk n = true then opp s else s)).filter ((fun q : Sq => q.nb == n && q.sd == s) ∘ tld pk) := by
   rw [List.filter_filter];refine List.filter_congr fun q hq => ?_
   obtain ⟨k, s1, hk, h1, h6, hf, ha⟩ := mem_sqs hq;obtain ⟨a1, a2⟩ := sqA_bx ha
   cases e3 : ((fun q : Sq => q.nb == n && q.sd == s) ∘ tld pk) q with
   | false => rfl
   | true => rw [hsd q (by omega) e3]; simp
  rw [e2];unfold List.Nodup;rw [List.pairwise_map];exact hp.filter _
noncomputable def tcP (l : List Bx) (i k : Nat) : Bool := (Classical.propDecidable (∃ w, 1 ≤ w ∧ w ≤ 6 ∧ l.getD k bx0 = near (l.getD i bx0) w)).decide
theorem tcP_iff {l : List Bx} {i k : Nat} : tcP l i k = true ↔ ∃ w, 1 ≤ w ∧ w ≤ 6 ∧ l.getD k bx0 = near (l.getD i bx0) w := by unfold tcP; simp
theorem Fce.tc {c : Cs} {σ : Nat} {l : List Bx} (h : Fce c σ l) {a b : Nat} (ha : a < l.length) (hb : b < l.length) : tcl l a b = tcP l a b := by
 have ga : ∀ i, i < l.length → l.getD i bx0 ∈ l := fun i hi => by rw [List.getD_eq_getElem?_getD, List.getElem?_eq_getElem hi]; exact List.getElem_mem hi
 obtain ⟨k, hk, hf, hn, e⟩ := h.mem _ (ga a ha);obtain ⟨k', hk', hf', hn', e'⟩ := h.mem _ (ga b hb);rw [Bool.eq_iff_iff, tcP_iff];unfold tcl;rw [e, e'];refine tch_flt hk hk' h.side (fun q => ?_) (fun q => ?_)
 ·rw [hn _ q] at hf'; cases hf'
 ·rw [hn' _ q] at hf; cases hf
theorem Fce.pieces {c : Cs} {σ : Nat} {l : List Bx} (h : Fce c σ l) : pcsL l = pcs (tcP l) l.length l.length :=
 pcs_congr (fun a b ha hb => h.tc ha hb) _ (Nat.le_refl _)
theorem mAt_any (x y z : Nat) (w : World) (hx : x ≤ 1000) (hy : y ≤ 1000) (hz : z ≤ 1000) : Calls Tryz.prog 57 #[.int .i64 (x : Int), .int .i64 (y : Int), .int .i64 (z : Int)] w fun e w' => e = .returned (.int .i64 ((at3 x y z : Nat) : Int)) ∧ w' = w := by
 have w1 : IntKind.i64.wrap ((z : Int) * 24) = (z : Int) * 24 := wrap_i (by omega) (by omega);have w2 : IntKind.i64.wrap ((z : Int) * 24 + y) = (z : Int) * 24 + y := wrap_i (by omega) (by omega);have w3 : IntKind.i64.wrap (((z : Int) * 24 + y) * 24) = ((z : Int) * 24 + y) * 24 := wrap_i (by omega) (by omega);have w4 : IntKind.i64.wrap (((z : Int) * 24 + y) * 24 + x) = ((z : Int) * 24 + y) * 24 + x := wrap_i (by omega) (by omega);go_enter Tryz.func57, Tryz.ntmps57;go_wp2_with fail;go_ret;exact ⟨ret_int (by unfold at3; omega), rfl⟩
theorem mMoved_any (b : Bx) (x y z : Int) (w : World) (hb : bxS 1000 b) (hx : -1000 ≤ x ∧ x ≤ 1000) (hy : -1000 ≤ y ∧ y ≤ 1000) (hz : -1000 ≤ z ∧ z ≤ 1000) : Calls Tryz.prog 109 #[bxv b, .int .i64 x, .int .i64 y, .int .i64 z] w fun e w' => e = .returned (bxv (mvB b x y z)) ∧ Below w.heap.size w w' := by
 obtain ⟨h1, h2, h3, h4, h5, h6⟩ := hb;have w1 : IntKind.i64.wrap (b.x0 + x) = b.x0 + x := wrap_i (by omega) (by omega);have w2 : IntKind.i64.wrap (b.y0 + y) = b.y0 + y := wrap_i (by omega) (by omega);have w3 : IntKind.i64.wrap (b.z0 + z) = b.z0 + z := wrap_i (by omega) (by omega);have w4 : IntKind.i64.wrap (b.x1 + x) = b.x1 + x := wrap_i (by omega) (by omega);have w5 : IntKind.i64.wrap (b.y1 + y) = b.y1 + y := wrap_i (by omega) (by omega);have w6 : IntKind.i64.wrap (b.z1 + z) = b.z1 + z := wrap_i (by omega) (by omega);clear h1 h2 h3 h4 h5 h6 hx hy hz;unfold bxv mvB;simp only
 generalize b.x0 = x0 at *;generalize b.y0 = y0 at *;generalize b.z0 = z0 at *;generalize b.x1 = x1 at *;generalize b.y1 = y1 at *;generalize b.z1 = z1 at *;go_enter Tryz.func109, Tryz.ntmps109;go_wp2_with fail;refine bodyPost_ret (v := .agg #[.int .i64 (x0 + x), .int .i64 (y0 + y), .int .i64 (z0 + z), .int .i64 (x1 + x), .int .i64 (y1 + y), .int .i64 (z1 + z)]) (by simp [results, Tryz.results109, go_sem]; done) rfl ?_;refine ⟨rfl, ?_⟩
 repeat (first | exact bfl _ _ | refine Below.setCell ?_ (Nat.le_refl _) _ | refine Below.setCell ?_ (by simp) _ | refine ba ?_ _)
theorem mBox_any (b : Bx) (w : World) : Calls Tryz.prog 110 #[bxv b] w fun e w' => e = .returned (.bool (bxOk b)) ∧ Below w.heap.size w w' := by
 unfold bxv bxOk;generalize b.x0 = x0 at *;generalize b.y0 = y0 at *;generalize b.z0 = z0 at *;generalize b.x1 = x1 at *;generalize b.y1 = y1 at *;generalize b.z1 = z1 at *;go_enter Tryz.func110, Tryz.ntmps110;go_wp2
 all_goals
  go_ret;refine ⟨ret_bool ?_, ba (bfl _ _) _⟩
  first | (simp [*]; done) | (simp; omega)
theorem mStep_any (s : Nat) (w : World) (hs : 1 ≤ s ∧ s ≤ 6) : Calls Tryz.prog 129 #[.int .i64 (s : Int)] w fun e w' => e = .returned (.tuple #[.int .i64 (stp s).1, .int .i64 (stp s).2.1, .int .i64 (stp s).2.2]) ∧ w' = w := by
 have : s = 1 ∨ s = 2 ∨ s = 3 ∨ s = 4 ∨ s = 5 ∨ s = 6 := by omega
 rcases this with rfl | rfl | rfl | rfl | rfl | rfl
 ·go_enter Tryz.func129, Tryz.ntmps129
  go_wp2_with fail;refine bodyPost_ret (v := .tuple #[.int .i64 (-1), .int .i64 (0), .int .i64 (0)]) (by simp [results, Tryz.results129, go_sem]; done) rfl ?_;exact ⟨rfl, rfl⟩
 ·go_enter Tryz.func129, Tryz.ntmps129
  go_wp2_with fail;refine bodyPost_ret (v := .tuple #[.int .i64 (1), .int .i64 (0), .int .i64 (0)]) (by simp [results, Tryz.results129, go_sem]; done) rfl ?_;exact ⟨rfl, rfl⟩
 ·go_enter Tryz.func129, Tryz.ntmps129
  go_wp2_with fail;refine bodyPost_ret (v := .tuple #[.int .i64 (0), .int .i64 (-1), .int .i64 (0)]) (by simp [results, Tryz.results129, go_sem]; done) rfl ?_;exact ⟨rfl, rfl⟩
 ·go_enter Tryz.func129, Tryz.ntmps129
  go_wp2_with fail;refine bodyPost_ret (v := .tuple #[.int .i64 (0), .int .i64 (1), .int .i64 (0)]) (by simp [results, Tryz.results129, go_sem]; done) rfl ?_;exact ⟨rfl, rfl⟩
 ·go_enter Tryz.func129, Tryz.ntmps129
  go_wp2_with fail;refine bodyPost_ret (v := .tuple #[.int .i64 (0), .int .i64 (0), .int .i64 (-1)]) (by simp [results, Tryz.results129, go_sem]; done) rfl ?_;exact ⟨rfl, rfl⟩
 ·go_enter Tryz.func129, Tryz.ntmps129
  go_wp2_with fail;refine bodyPost_ret (v := .tuple #[.int .i64 (0), .int .i64 (0), .int .i64 (1)]) (by simp [results, Tryz.results129, go_sem]; done) rfl ?_;exact ⟨rfl, rfl⟩
def inS (x y z : Int) : Bool := decide (0 ≤ x) && decide (0 ≤ y) && decide (0 ≤ z) && decide (x < 24) && decide (y < 24) && decide (z < 24)
theorem mInside_any (x y z : Int) (w : World) : Calls Tryz.prog 130 #[.int .i64 x, .int .i64 y, .int .i64 z] w fun e w' => e = .returned (.bool (inS x y z)) ∧ w' = w := by
 unfold inS;go_enter Tryz.func130, Tryz.ntmps130;go_wp2
 all_goals
  go_ret;refine ⟨ret_bool ?_, rfl⟩
  first | (simp [*]; done) | (simp; omega)
theorem mOpp_any (s : Nat) (w : World) (hs : 1 ≤ s ∧ s ≤ 6) : Calls Tryz.prog 113 #[.int .i64 (s : Int)] w fun e w' => e = .returned (.int .i64 ((opp s : Nat) : Int)) ∧ w' = w := by
 have : s = 1 ∨ s = 2 ∨ s = 3 ∨ s = 4 ∨ s = 5 ∨ s = 6 := by omega
 rcases this with rfl | rfl | rfl | rfl | rfl | rfl
 all_goals
  go_enter Tryz.func113, Tryz.ntmps113;go_wp2_with fail;go_ret;exact ⟨rfl, rfl⟩
theorem mFlat_any (k s : Nat) (w : World) (hk : k < 13824) (hs : 1 ≤ s ∧ s ≤ 6) : Calls Tryz.prog 145 #[.int .i64 (cx k : Int), .int .i64 (cy k : Int), .int .i64 (cz k : Int), .int .i64 (s : Int)] w fun e w' => e = .returned (bxv (flt k s)) ∧ Below w.heap.size w w' := by
 have hx := cx_lt k;have hy := cy_lt k;have hz := cz_lt hk;have w1 : IntKind.i64.wrap ((cx k : Int) + 1) = (cx k : Int) + 1 := wrap_i (by omega) (by omega);have w2 : IntKind.i64.wrap ((cy k : Int) + 1) = (cy k : Int) + 1 := wrap_i (by omega) (by omega);have w3 : IntKind.i64.wrap ((cz k : Int) + 1) = (cz k : Int) + 1 := wrap_i (by omega) (by omega);have : s = 1 ∨ s = 2 ∨ s = 3 ∨ s = 4 ∨ s = 5 ∨ s = 6 := by omega
 rcases this with rfl | rfl | rfl | rfl | rfl | rfl
 ·unfold bxv flt
  simp only;generalize cx k = x at *;generalize cy k = y at *;generalize cz k = z at *;go_enter Tryz.func145, Tryz.ntmps145;go_wp2_with fail;refine bodyPost_ret (v := .agg #[.int .i64 ((x : Int)), .int .i64 ((y : Int)), .int .i64 ((z : Int)), .int .i64 ((x : Int)), .int .i64 ((y : Int) + 1), .int .i64 ((z : Int) + 1)]) (by simp [results, Tryz.results145, go_sem]; done) rfl ?_;refine ⟨rfl, ?_⟩
  repeat (first | exact bfl _ _ | refine Below.setCell ?_ (Nat.le_refl _) _ | refine Below.setCell ?_ (by simp) _ | refine ba ?_ _)
 ·unfold bxv flt
  simp only;generalize cx k = x at *;generalize cy k = y at *;generalize cz k = z at *;go_enter Tryz.func145, Tryz.ntmps145;go_wp2_with fail;refine bodyPost_ret (v := .agg #[.int .i64 ((x : Int) + 1), .int .i64 ((y : Int)), .int .i64 ((z : Int)), .int .i64 ((x : Int) + 1), .int .i64 ((y : Int) + 1), .int .i64 ((z : Int) + 1)]) (by simp [results, Tryz.results145, go_sem]; done) rfl ?_;refine ⟨rfl, ?_⟩
  repeat (first | exact bfl _ _ | refine Below.setCell ?_ (Nat.le_refl _) _ | refine Below.setCell ?_ (by simp) _ | refine ba ?_ _)
 ·unfold bxv flt
  simp only;generalize cx k = x at *;generalize cy k = y at *;generalize cz k = z at *;go_enter Tryz.func145, Tryz.ntmps145;go_wp2_with fail;refine bodyPost_ret (v := .agg #[.int .i64 ((x : Int)), .int .i64 ((y : Int)), .int .i64 ((z : Int)), .int .i64 ((x : Int) + 1), .int .i64 ((y : Int)), .int .i64 ((z : Int) + 1)]) (by simp [results, Tryz.results145, go_sem]; done) rfl ?_;refine ⟨rfl, ?_⟩
  repeat (first | exact bfl _ _ | refine Below.setCell ?_ (Nat.le_refl _) _ | refine Below.setCell ?_ (by simp) _ | refine ba ?_ _)
 ·unfold bxv flt
  simp only;generalize cx k = x at *;generalize cy k = y at *;generalize cz k = z at *;go_enter Tryz.func145, Tryz.ntmps145;go_wp2_with fail;refine bodyPost_ret (v := .agg #[.int .i64 ((x : Int)), .int .i64 ((y : Int) + 1), .int .i64 ((z : Int)), .int .i64 ((x : Int) + 1), .int .i64 ((y : Int) + 1), .int .i64 ((z : Int) + 1)]) (by simp [results, Tryz.results145, go_sem]; done) rfl ?_;refine ⟨rfl, ?_⟩
  repeat (first | exact bfl _ _ | refine Below.setCell ?_ (Nat.le_refl _) _ | refine Below.setCell ?_ (by simp) _ | refine ba ?_ _)
 ·unfold bxv flt
  simp only;generalize cx k = x at *;generalize cy k = y at *;generalize cz k = z at *;go_enter Tryz.func145, Tryz.ntmps145;go_wp2_with fail;refine bodyPost_ret (v := .agg #[.int .i64 ((x : Int)), .int .i64 ((y : Int)), .int .i64 ((z : Int)), .int .i64 ((x : Int) + 1), .int .i64 ((y : Int) + 1), .int .i64 ((z : Int))]) (by simp [results, Tryz.results145, go_sem]; done) rfl ?_;refine ⟨rfl, ?_⟩
  repeat (first | exact bfl _ _ | refine Below.setCell ?_ (Nat.le_refl _) _ | refine Below.setCell ?_ (by simp) _ | refine ba ?_ _)
 ·unfold bxv flt
  simp only;generalize cx k = x at *;generalize cy k = y at *;generalize cz k = z at *;go_enter Tryz.func145, Tryz.ntmps145;go_wp2_with fail;refine bodyPost_ret (v := .agg #[.int .i64 ((x : Int)), .int .i64 ((y : Int)), .int .i64 ((z : Int) + 1), .int .i64 ((x : Int) + 1), .int .i64 ((y : Int) + 1), .int .i64 ((z : Int) + 1)]) (by simp [results, Tryz.results145, go_sem]; done) rfl ?_;refine ⟨rfl, ?_⟩
  repeat (first | exact bfl _ _ | refine Below.setCell ?_ (Nat.le_refl _) _ | refine Below.setCell ?_ (by simp) _ | refine ba ?_ _)
theorem nbr_in {k s : Nat} (hk : k < 13824) (hs : 1 ≤ s ∧ s ≤ 6) : inS ((cx k : Int) + (stp s).1) ((cy k : Int) + (stp s).2.1) ((cz k : Int) + (stp s).2.2) = (nbr k s).isSome ∧ ∀ m, nbr k s = some m → (cx k : Int) + (stp s).1 = cx m ∧ (cy k : Int) + (stp s).2.1 = cy m ∧ (cz k : Int) + (stp s).2.2 = cz m := by
 have hx := cx_lt k;have hy := cy_lt k;have hz := cz_lt hk;have e := at3_c k
 have key : ∀ (p : Prop) [Decidable p] (j m : Nat), (if p then none else some j) = some m → ¬ p ∧ j = m := by
  intro p _ j m h
  by_cases hp : p
  ·rw [if_pos hp] at h; cases h
  ·rw [if_neg hp] at h; exact ⟨hp, Option.some.inj h⟩
 have iso : ∀ (p : Prop) [Decidable p] (j : Nat), ((if p then none else some j : Option Nat)).isSome = !decide p := by
  intro p _ j
  by_cases hp : p <;> simp [hp]
 have : s = 1 ∨ s = 2 ∨ s = 3 ∨ s = 4 ∨ s = 5 ∨ s = 6 := by omega
 unfold at3 at e
 rcases this with rfl | rfl | rfl | rfl | rfl | rfl
 all_goals
  simp only [nbr, stp];refine ⟨?_, ?_⟩
  ·rw [iso, Bool.eq_iff_iff]
   unfold inS;simp only [Bool.and_eq_true, decide_eq_true_eq, Bool.not_eq_true', decide_eq_false_iff_not];omega
  ·intro m hm
   obtain ⟨h1, rfl⟩ := key _ _ _ hm;simp only [cx, cy, cz] at h1 hx hy hz e ⊢;omega
theorem absM_any (x : Int) (w : World) (h1 : -10000 ≤ x) (h2 : x ≤ 10000) : Calls Tryz.prog 69 #[.int .i64 x] w fun e w' => e = .returned (.int .i64 (absI x)) ∧ w' = w := by
 have w1 : IntKind.i64.wrap (-x) = -x := wrap_i (by omega) (by omega);unfold absI
 by_cases h : x < 0
 ·rw [if_pos h]
  have d : decide (x < 0) = true := dt h;go_enter Tryz.func69, Tryz.ntmps69;go_wp2_with fail;go_ret;exact ⟨rfl, rfl⟩
 ·rw [if_neg h]
  have d : decide (x < 0) = false := df h;go_enter Tryz.func69, Tryz.ntmps69;go_wp2_with fail;go_ret;exact ⟨rfl, rfl⟩
theorem absI_le {x m : Int} (h1 : -m ≤ x) (h2 : x ≤ m) : 0 ≤ absI x ∧ absI x ≤ m := by unfold absI; split <;> omega
theorem touch_any (a b : Bx) (w : World) (ha : bxS 1000 a) (hb : bxS 1000 b) : Calls Tryz.prog 146 #[bxv a, bxv b] w fun e w' => e = .returned (.bool (tch a b)) ∧ Below w.heap.size w w' := by
 obtain ⟨a1, a2, a3, a4, a5, a6⟩ := ha;obtain ⟨b1, b2, b3, b4, b5, b6⟩ := hb;have w1 : IntKind.i64.wrap (a.x0 - b.x0) = a.x0 - b.x0 := wrap_i (by omega) (by omega);have w2 : IntKind.i64.wrap (a.y0 - b.y0) = a.y0 - b.y0 := wrap_i (by omega) (by omega);have w3 : IntKind.i64.wrap (a.z0 - b.z0) = a.z0 - b.z0 := wrap_i (by omega) (by omega);have A1 := hide (fun W => absM_any (a.x0 - b.x0) W (by omega) (by omega));have A2 := hide (fun W => absM_any (a.y0 - b.y0) W (by omega) (by omega));have A3 := hide (fun W => absM_any (a.z0 - b.z0) W (by omega) (by omega))
 obtain ⟨p1, p2⟩ := absI_le (x := a.x0 - b.x0) (m := 2000) (by omega) (by omega);obtain ⟨q1, q2⟩ := absI_le (x := a.y0 - b.y0) (m := 2000) (by omega) (by omega);obtain ⟨r1, r2⟩ := absI_le (x := a.z0 - b.z0) (m := 2000) (by omega) (by omega);unfold tch bxv;generalize absI (a.x0 - b.x0) = p at *;generalize absI (a.y0 - b.y0) = q at *;generalize absI (a.z0 - b.z0) = r at *;have w4 : IntKind.i64.wrap (p + q) = p + q := wrap_i (by omega) (by omega);have w5 : IntKind.i64.wrap (p + q + r) = p + q + r := wrap_i (by omega) (by omega);clear a1 a2 a3 a4 a5 a6 b1 b2 b3 b4 b5 b6 p1 p2 q1 q2 r1 r2
 generalize a.x0 = ax0 at *;generalize a.y0 = ay0 at *;generalize a.z0 = az0 at *;generalize a.x1 = ax1 at *;generalize a.y1 = ay1 at *;generalize a.z1 = az1 at *;generalize b.x0 = bx0' at *;generalize b.y0 = by0 at *;generalize b.z0 = bz0 at *;generalize b.x1 = bx1 at *;generalize b.y1 = by1 at *;generalize b.z1 = bz1 at *;clear a b;go_enter Tryz.func146, Tryz.ntmps146;go_wp2_with fail;refine (zu A1 _).mono ?_;rintro e W1 ⟨rfl, rfl⟩;go_wp2_with fail;refine (zu A2 _).mono ?_;rintro e W1 ⟨rfl, rfl⟩;go_wp2_with fail;refine (zu A3 _).mono ?_;rintro e W1 ⟨rfl, rfl⟩;clear A1 A2 A3 w1 w2 w3;go_wp2
 all_goals
  go_ret;refine ⟨ret_bool ?_, ba (ba (bfl _ _) _) _⟩
  first | (simp [*]; done) | (simp_all; done) | (rw [Bool.eq_iff_iff]; simp only [Bool.and_eq_true, Bool.or_eq_true, Bool.not_eq_true', Bool.or_eq_false_iff, Bool.and_eq_false_iff, decide_eq_true_eq, decide_eq_false_iff_not, beq_iff_eq, beq_eq_false_iff_ne, ne_eq, bne_iff_ne, bne_eq_false_iff_eq, Bool.false_eq_true, false_iff] at *; omega)
theorem around_any (a b : Bx) (w : World) : Calls Tryz.prog 114 #[bxv a, bxv b] w fun e w' => e = .returned (bxv (arn a b)) ∧ Below w.heap.size w w' := by
 unfold arn bxv;simp only;generalize a.x0 = ax0 at *;generalize a.y0 = ay0 at *;generalize a.z0 = az0 at *;generalize a.x1 = ax1 at *;generalize a.y1 = ay1 at *;generalize a.z1 = az1 at *;generalize b.x0 = bx0' at *;generalize b.y0 = by0 at *;generalize b.z0 = bz0 at *;generalize b.x1 = bx1 at *;generalize b.y1 = by1 at *;generalize b.z1 = bz1 at *;clear a b;go_enter Tryz.func114, Tryz.ntmps114;go_wp2_with fail
 refine bodyPost_ret (v := .agg #[.int .i64 (min ax0 bx0'), .int .i64 (min ay0 by0), .int .i64 (min az0 bz0), .int .i64 (max ax1 bx1), .int .i64 (max ay1 by1), .int .i64 (max az1 bz1)]) (by simp [results, Tryz.results114, go_sem]; done) rfl ?_;refine ⟨rfl, ?_⟩
 repeat (first | exact bfl _ _ | refine Below.setCell ?_ (Nat.le_refl _) _ | refine Below.setCell ?_ (by simp) _ | refine ba ?_ _)
def RSteps (P : Program) (ops : Array Oper) (Q : Exit → Act → World → Prop) (I : Array Bool → Act → World → Prop) (listed : Array Bool) (a : Act) (w : World) : Nat → List Oper → Prop
 | _, [] => True
 | i, o :: rest => (listed.getD i true = false → (o.after.all fun e => !Region.binds .any e || listed.getD e.on false) = true →
   ∀ K' : Act → World → Prop, Hid (∀ a' w', I (listed.setIfInBounds i true) a' w' → K' a' w') → if Region.wanted o (yielded ops a.tmps) = true then Oper.wp P o a w K' Q else K' (a.put o.dst undef) w) ∧ RSteps P ops Q I listed a w (i + 1) rest
section
variable {P : Program} {ops : Array Oper} {Q : Exit → Act → World → Prop} {I : Array Bool → Act → World → Prop}
theorem RSteps.at {listed : Array Bool} {a : Act} {w : World} : ∀ (l : List Oper) (k i : Nat) (o : Oper), RSteps P ops Q I listed a w k l → l[i]? = some o → listed.getD (k + i) true = false →
  (o.after.all fun e => !Region.binds .any e || listed.getD e.on false) = true →
  ∀ K' : Act → World → Prop, Hid (∀ a' w', I (listed.setIfInBounds (k + i) true) a' w' → K' a' w') → if Region.wanted o (yielded ops a.tmps) = true then Oper.wp P o a w K' Q else K' (a.put o.dst undef) w := by
 intro l
 induction l with
 | nil => intro k i o _ h; simp at h
 | cons x l ih =>
  intro k i o h hi
  cases i with
  | zero => simp at hi; subst hi; exact h.1
  | succ i =>
   have := ih (k + 1) i o h.2 (by simpa using hi);rw [show k + 1 + i = k + (i + 1) by omega] at this;exact this
theorem count_set : ∀ (l : List Bool) (i : Nat), l[i]? = some false → (l.set i true).count false + 1 = l.count false
 | [], i, h => by simp at h
 | x :: l, 0, h => by simp at h; subst h; simp
 | x :: l, i + 1, h => by
  have := count_set l i (by simpa using h);simp only [List.set_cons_succ, List.count_cons];omega
theorem count_none {l : List Bool} (h : l.count false = 0) {i : Nat} (hi : i < l.length) : l[i]? = some true := by
 rw [List.count_eq_zero] at h;rw [List.getElem?_eq_getElem hi]
 cases hx : l[i] with
 | true => rfl
 | false => exact absurd (hx ▸ List.getElem_mem hi) h
end
/-! ### Blocks of one's own that come one after another, in whatever order -/
abbrev Box := Bool × Nat × Array Value × TypeId
def boxIs (W : World) (B : Nat) (x : Box) : Prop := x.1 = true → B ≤ x.2.1 ∧ W.heap[x.2.1]? = some (.cells x.2.2.1 x.2.2.2 (0, 0))
def Boxes (W : World) (B : Nat) (l : List Box) : Prop :=
 (∀ (i : Nat) (x : Box), l[i]? = some x → boxIs W B x) ∧ ∀ (i j : Nat) (x y : Box), l[i]? = some x → l[j]? = some y → x.1 = true → y.1 = true → x.2.1 = y.2.1 → i = j
theorem Boxes.below {W W' : World} {B : Nat} {l : List Box} (h : Boxes W B l) (hb : Below W.heap.size W W') : Boxes W' B l := by
 refine ⟨fun i x hx ht => ⟨(h.1 i x hx ht).1, ?_⟩, h.2⟩;have := (h.1 i x hx ht).2;exact (hb.block _ (Array.getElem?_eq_some_iff.1 this).1).trans this
theorem Boxes.drew {W : World} {B : Nat} {l : List Box} (h : Boxes W B l) : Boxes W.drew B l := h
theorem Boxes.alloc {W : World} {B : Nat} {l : List Box} (h : Boxes W B l) (o : Obj) : Boxes (W.alloc o) B l := by
 refine ⟨fun i x hx ht => ⟨(h.1 i x hx ht).1, ?_⟩, h.2⟩;have h1 := (h.1 i x hx ht).2;have h2 := (Array.getElem?_eq_some_iff.1 h1).1
 show (W.heap.push o)[x.2.1]? = _
 rw [Array.getElem?_push_lt h2, ← h1, Array.getElem?_eq_getElem h2]
theorem Boxes.more {W : World} {B : Nat} {l : List Box} (i : Nat) (h : Boxes W B l) {p : Nat} {cs : Array Value} {t : TypeId} (hi : l[i]? = some (false, p, cs, t)) (hB : B ≤ W.heap.size) :
  Boxes (W.alloc (.cells cs t)) B (l.set i (true, W.heap.size, cs, t)) := by
 have hlt : i < l.length := (List.getElem?_eq_some_iff.1 hi).1;constructor
 ·intro j x hx
  by_cases hj : i = j
  ·subst hj
   rw [List.getElem?_set_self hlt] at hx
   cases hx
   intro _;refine ⟨hB, ?_⟩
   show (W.heap.push _)[W.heap.size]? = _
   rw [Array.getElem?_push_size]
  ·rw [List.getElem?_set_ne hj] at hx
   exact (h.alloc _).1 j x hx
 ·have old : ∀ (j : Nat) (x : Box), l[j]? = some x → x.1 = true → x.2.1 < W.heap.size := fun j x hx ht => (Array.getElem?_eq_some_iff.1 (h.1 j x hx ht).2).1
  intro j k x y hx hy tx ty he
  by_cases hj : i = j <;> by_cases hk : i = k
  ·omega
  ·subst hj
   rw [List.getElem?_set_self hlt] at hx;rw [List.getElem?_set_ne hk] at hy
   cases hx
   have := old k y hy ty;simp at he;omega
  ·subst hk
   rw [List.getElem?_set_self hlt] at hy;rw [List.getElem?_set_ne hj] at hx
   cases hy
   have := old j x hx tx;simp at he;omega
  ·rw [List.getElem?_set_ne hj] at hx
   rw [List.getElem?_set_ne hk] at hy;exact h.2 j k x y hx hy tx ty he
theorem Boxes.put {W : World} {B : Nat} {l : List Box} (i : Nat) (h : Boxes W B l) {p : Nat} {cs : Array Value} {t : TypeId} (hi : l[i]? = some (true, p, cs, t)) (o : Nat) (v : Value) :
  Boxes (W.setCell ⟨p, o, none⟩ v) B (l.set i (true, p, cs.setIfInBounds o v, t)) := by
 have hlt : i < l.length := (List.getElem?_eq_some_iff.1 hi).1;have hs := h.1 i _ hi rfl;have hp := (Array.getElem?_eq_some_iff.1 hs.2).1;constructor
 ·intro j x hx
  by_cases hj : i = j
  ·subst hj
   rw [List.getElem?_set_self hlt] at hx
   cases hx
   intro _;refine ⟨hs.1, ?_⟩
   show (W.heap.modify p _)[p]? = _
   rw [Array.getElem?_modify, if_pos rfl, hs.2];rfl
  ·rw [List.getElem?_set_ne hj] at hx
   intro ht;refine ⟨(h.1 j x hx ht).1, ?_⟩;have hne : p ≠ x.2.1 := fun e => hj (h.2 i j _ x hi hx rfl ht e)
   show (W.heap.modify p _)[x.2.1]? = _
   rw [Array.getElem?_modify, if_neg hne];exact (h.1 j x hx ht).2
 ·intro j k x y hx hy tx ty he
  have back : ∀ (j : Nat) (x : Box), (l.set i (true, p, cs.setIfInBounds o v, t))[j]? = some x → ∃ x', l[j]? = some x' ∧ x'.1 = x.1 ∧ x'.2.1 = x.2.1 := by
   intro j x hx
   by_cases hj : i = j
   ·subst hj
    rw [List.getElem?_set_self hlt] at hx
    cases hx
    exact ⟨_, hi, rfl, rfl⟩
   ·rw [List.getElem?_set_ne hj] at hx
    exact ⟨x, hx, rfl, rfl⟩
  obtain ⟨x', hx', a1, a2⟩ := back j x hx;obtain ⟨y', hy', c1, c2⟩ := back k y hy;exact h.2 j k x' y' hx' hy' (a1.trans tx) (c1.trans ty) (a2.trans (he.trans c2.symm))
theorem Boxes.cell {W : World} {B : Nat} {l : List Box} (i : Nat) (h : Boxes W B l) {p : Nat} {cs : Array Value} {t : TypeId} (hi : l[i]? = some (true, p, cs, t)) (o : Nat) {v : Value} (hv : cs[o]? = some v) : W.cell? ⟨p, o, none⟩ = some v := by
 have hs := (h.1 i _ hi rfl).2;simp only [World.cell?];rw [hs];exact hv
theorem Boxes.frozen {W : World} {B : Nat} {l : List Box} (i : Nat) (h : Boxes W B l) {p : Nat} {cs : Array Value} {t : TypeId} (hi : l[i]? = some (true, p, cs, t)) (o : Nat) : W.frozen? ⟨p, o, none⟩ = false := by
 have hs := (h.1 i _ hi rfl).2;simp only [World.frozen?];rw [hs];simp
theorem Boxes.le {W : World} {B : Nat} {l : List Box} (i : Nat) (h : Boxes W B l) {p : Nat} {cs : Array Value} {t : TypeId} (hi : l[i]? = some (true, p, cs, t)) : B ≤ p ∧ p < W.heap.size :=
  ⟨(h.1 i _ hi rfl).1, (Array.getElem?_eq_some_iff.1 (h.1 i _ hi rfl).2).1⟩
def forward2 (ops : Array Oper) : Bool := (List.range ops.size).all fun i => ((ops[i]?).map (·.after.all fun e => !Region.binds .any e || decide (e.on < i))).getD true
section
variable {P : Program} {ops : Array Oper} {Q : Exit → Act → World → Prop} {I : Array Bool → Act → World → Prop}
theorem wpAny_inv2 (hfw : forward2 ops = true)
  (hstep : ∀ listed a w, I listed a w → RSteps P ops Q I listed a w 0 ops.toList)
  (hend : ∀ listed a w, I listed a w → listed = Array.replicate ops.size true → Q .normal a w) :
  ∀ (n : Nat) (listed : Array Bool) (a : Act) (w : World), listed.size = ops.size → listed.toList.count false ≤ n → I listed a w → wpAny P .any ops Q n listed a w := by
 have alltrue : ∀ listed : Array Bool, listed.size = ops.size → (∀ i, i < ops.size → listed.getD i true = true) → listed = Array.replicate ops.size true := by
  intro listed hs h;apply Array.ext
  ·simp [hs]
  ·intro i h1 h2
   have := h i (by omega);simp [h1] at this;simp [this]
 have fin : ∀ listed : Array Bool, listed.size = ops.size → Region.ready .any ops listed = [] → listed = Array.replicate ops.size true := by
  intro listed hs hr;refine alltrue listed hs ?_;intro i
  induction i using Nat.strongRecOn with
  | _ i ih =>
   intro hi
   cases hl : listed.getD i true with
   | true => rfl
   | false =>
    have : i ∈ Region.ready .any ops listed := by
     rw [mem_ready];refine ⟨hl, ops[i], Array.getElem?_eq_getElem hi, fun e he hb => ?_⟩
     have hlt : e.on < i := by
      have h1 := hfw;unfold forward2 at h1;rw [List.all_eq_true] at h1;have h2 := h1 i (by simpa using hi);rw [Array.getElem?_eq_getElem hi] at h2;simp only [Option.map_some, Option.getD_some, Array.all_eq_true_iff_forall_mem] at h2;have h3 := h2 e he;rw [hb] at h3
      simpa using h3
     have h3 := ih e.on hlt (by omega);have : e.on < listed.size := by omega
     simp [this] at h3 ⊢;exact h3
    rw [hr] at this
    cases this
 intro n
 induction n with
 | zero =>
  intro listed a w hs hc hI
  have e : listed = Array.replicate ops.size true := by
   refine alltrue listed hs fun i hi => ?_
   have := count_none (l := listed.toList) (by omega) (i := i) (by simp; omega);rw [Array.getElem?_toList] at this;simp [this]
  refine ⟨?_, hend _ _ _ hI e⟩;rw [e];apply List.eq_nil_iff_forall_not_mem.2;intro i hi;rw [mem_ready] at hi;obtain ⟨h0, o, ho, _⟩ := hi;have : i < ops.size := (Array.getElem?_eq_some_iff.1 ho).1;simp [this] at h0
 | succ n ih =>
  intro listed a w hs hc hI;refine ⟨fun hr => hend _ _ _ hI (fin listed hs hr), fun i hi => ?_⟩;obtain ⟨h0, o, ho, hall⟩ := mem_ready.1 hi
  have hlt : i < listed.size := by
   have := (Array.getElem?_eq_some_iff.1 ho).1;omega
  have hst := RSteps.at ops.toList 0 i o (hstep _ _ _ hI) (by rw [Array.getElem?_toList]; exact ho) (by rw [Nat.zero_add]; exact h0) (by
   rw [Array.all_eq_true_iff_forall_mem];intro e he
   cases hb : Region.binds .any e
   ·rfl
   ·rw [hall e he hb]; rfl)
  rw [Nat.zero_add] at hst;refine wpOp_step ho (fun K' hK => hst K' (fun a' w' h => hK a' w' (ih _ a' w' (by simpa using hs) ?_ h)));rw [Array.toList_setIfInBounds]
  have := count_set listed.toList i (by
   rw [Array.getElem?_toList];simp [hlt] at h0 ⊢
   exact h0)
  omega
theorem wp_region_inv2 {id : Nat} {a : Act} {w : World} (I : Array Bool → Act → World → Prop) (hm : P.follows .mixedOrders = true) (hfw : forward2 ops = true)
  (h0 : I (Array.replicate ops.size false) a w.drew)
  (hstep : ∀ listed a w, I listed a w → RSteps P ops Q I listed a w 0 ops.toList)
  (hend : ∀ listed a w, I listed a w → listed = Array.replicate ops.size true → Q .normal a w) : (Code.region id ops true).wp P Q a w := by
 refine wp_region_any hm (wpAny_inv2 hfw hstep hend _ _ _ _ (by simp) ?_ h0);simp
end
end Go.Proofs.YtkiplmabjeadgaaGreat
