/-
  l09Triple at any three near points. smallestCircle's steps: what each inner call is handed, and that each circle lies near.
-/
import Derived.Test.YtdcecfgmfmpeeaaRgTq
namespace Go.Proofs.Ytdcecfgmfmpeeaa
open Go.ChangeShapes Go.WideShapes Go.ChangeAt Go.RowKit
set_option linter.unusedVariables false
set_option linter.unusedSimpArgs false
instance (a b d : Pt) : Decidable (Sharp a b d) := by unfold Sharp; infer_instance
def triOk (a b d : Pt) : Bool := decide (side a b d ≠ 0 ∧ Sharp a b d)
def triC (a b d : Pt) : Ic := if triOk a b d = true then tM a b d else ⟨0, 0, 0, 0⟩
theorem sq_bd {p : Pt} (h : Nr1 p) : 0 ≤ sq p ∧ sq p ≤ 80000 ∧ (0 ≤ p.1 * p.1 ∧ p.1 * p.1 ≤ 40000) ∧ (0 ≤ p.2 * p.2 ∧ p.2 * p.2 ≤ 40000) := by
 obtain ⟨h1, h2, h3, h4⟩ := h
 have a := mulB (x := p.1) (y := p.1) (a := 200) (b := 200) (by omega) (by omega) (by omega) (by omega)
 have b := mulB (x := p.2) (y := p.2) (a := 200) (b := 200) (by omega) (by omega) (by omega) (by omega)
 have c := mul_self_ge p.1
 have d := mul_self_ge p.2
 unfold sq
 omega
theorem side_bd2 {a b d : Pt} (ha : Nr1 a) (hb : Nr1 b) (hd : Nr1 d) : -320000 ≤ side a b d ∧ side a b d ≤ 320000 := by
 obtain ⟨a1, a2, a3, a4⟩ := ha
 obtain ⟨b1, b2, b3, b4⟩ := hb
 obtain ⟨d1, d2, d3, d4⟩ := hd
 have m1 := mulB (x := b.1 - a.1) (y := d.2 - a.2) (a := 400) (b := 400) (by omega) (by omega) (by omega) (by omega)
 have m2 := mulB (x := b.2 - a.2) (y := d.1 - a.1) (a := 400) (b := 400) (by omega) (by omega) (by omega) (by omega)
 unfold side
 omega
theorem nr_ptOk {p : Pt} (h : Nr1 p) : ptOk p = true := near_ok h
theorem trX_bd {s t u p q r : Int} (hs : 0 ≤ s ∧ s ≤ 80000) (ht : 0 ≤ t ∧ t ≤ 80000) (hu : 0 ≤ u ∧ u ≤ 80000) (hp : -400 ≤ p ∧ p ≤ 400) (hq : -400 ≤ q ∧ q ≤ 400) (hr : -400 ≤ r ∧ r ≤ 400) :
  (-32000000 ≤ s * p ∧ s * p ≤ 32000000) ∧ (-32000000 ≤ t * q ∧ t * q ≤ 32000000) ∧ (-32000000 ≤ u * r ∧ u * r ≤ 32000000) := by
 have m1 := mulB (x := s) (y := p) (a := 80000) (b := 400) (by omega) (by omega) (by omega) (by omega)
 have m2 := mulB (x := t) (y := q) (a := 80000) (b := 400) (by omega) (by omega) (by omega) (by omega)
 have m3 := mulB (x := u) (y := r) (a := 80000) (b := 400) (by omega) (by omega) (by omega) (by omega)
 refine ⟨?_, ?_, ?_⟩ <;> constructor <;> omega
theorem tM_nr {a b d : Pt} (ha : Nr1 a) (hb : Nr1 b) (hd : Nr1 d) (hs : side a b d ≠ 0) : NrS ((tM a b d).X, (tM a b d).Y, (tM a b d).D) := by
 have sa := sq_bd ha
 have sb := sq_bd hb
 have sd := sq_bd hd
 have hS := side_bd2 ha hb hd
 obtain ⟨a1, a2, a3, a4⟩ := ha
 obtain ⟨b1, b2, b3, b4⟩ := hb
 obtain ⟨d1, d2, d3, d4⟩ := hd
 have t1 := trX_bd (s := sq a) (t := sq b) (u := sq d) (p := b.2 - d.2) (q := d.2 - a.2) (r := a.2 - b.2) (by omega) (by omega) (by omega) (by omega) (by omega) (by omega)
 have t2 := trX_bd (s := sq a) (t := sq b) (u := sq d) (p := d.1 - b.1) (q := a.1 - d.1) (r := b.1 - a.1) (by omega) (by omega) (by omega) (by omega) (by omega) (by omega)
 exact redM_nr (by omega) (by omega) (by omega)
theorem triM_any (a b d : Pt) (w : World) (ha : Nr1 a) (hb : Nr1 b) (hd : Nr1 d) :
  Calls Try.prog 45 #[.agg #[.int .i64 a.1, .int .i64 a.2], .agg #[.int .i64 b.1, .int .i64 b.2], .agg #[.int .i64 d.1, .int .i64 d.2]] w fun e w' => e = .returned (.tuple #[rgV 0 0 0 0 (triC a b d), .bool (triOk a b d)]) ∧ Below w.heap.size w w' := by
 have sa := sq_bd ha
 have sb := sq_bd hb
 have sd := sq_bd hd
 have hS := side_bd2 ha hb hd
 have wS : IntKind.i64.wrap (2 * side a b d) = 2 * side a b d := wr64 (by omega) (by omega)
 have HS := hide (fun W => side_any a b d W (nr_ptOk ha) (nr_ptOk hb) (nr_ptOk hd))
 have H1 := fun W => sharpM_any a b d W ha hb hd
 have H2 := fun W => sharpM_any b d a W hb hd ha
 have H3 := fun W => sharpM_any d a b W hd ha hb
 have bad : ¬ (side a b d ≠ 0 ∧ Sharp a b d) → triOk a b d = false ∧ triC a b d = ⟨0, 0, 0, 0⟩ := fun h => by
  have e : triOk a b d = false := decide_eq_false h
  refine ⟨e, ?_⟩
  unfold triC
  rw [e]
  rfl
 by_cases h0 : side a b d = 0
 ·obtain ⟨e1, e2⟩ := bad (fun h => h.1 h0)
  rw [e1, e2]
  exact triM_flat a.1 a.2 b.1 b.2 d.1 d.2 _ w wS HS (by omega)
 ·have h0' : ¬ 2 * side a b d = 0 := by omega
  by_cases h1 : 0 ≤ dt a b d
  ·rw [decide_eq_true h1] at H1
   by_cases h2 : 0 ≤ dt b d a
   ·rw [decide_eq_true h2] at H2
    by_cases h3 : 0 ≤ dt d a b
    ·rw [decide_eq_true h3] at H3
     have e1 : triOk a b d = true := decide_eq_true ⟨h0, h1, h2, h3⟩
     have e2 : triC a b d = tM a b d := by unfold triC; rw [e1]; rfl
     rw [e1, e2]
     have hp := ha
     obtain ⟨a1, a2, a3, a4⟩ := ha
     obtain ⟨b1, b2, b3, b4⟩ := hb
     obtain ⟨d1, d2, d3, d4⟩ := hd
     have t1 := trX_bd (s := sq a) (t := sq b) (u := sq d) (p := b.2 - d.2) (q := d.2 - a.2) (r := a.2 - b.2) (by omega) (by omega) (by omega) (by omega) (by omega) (by omega)
     have t2 := trX_bd (s := sq a) (t := sq b) (u := sq d) (p := d.1 - b.1) (q := a.1 - d.1) (r := b.1 - a.1) (by omega) (by omega) (by omega) (by omega) (by omega) (by omega)
     have qa : IntKind.i64.wrap (a.1 * a.1 + a.2 * a.2) = sq a := wr64 (by omega) (by omega)
     have qb : IntKind.i64.wrap (b.1 * b.1 + b.2 * b.2) = sq b := wr64 (by omega) (by omega)
     have qd : IntKind.i64.wrap (d.1 * d.1 + d.2 * d.2) = sq d := wr64 (by omega) (by omega)
     have H4 : Hid (∀ W : World, Calls Try.prog 42 #[.int .i64 (sq a * (b.2 - d.2) + sq b * (d.2 - a.2) + sq d * (a.2 - b.2)), .int .i64 (sq a * (d.1 - b.1) + sq b * (a.1 - d.1) + sq d * (b.1 - a.1)), .int .i64 (2 * side a b d), .agg #[.int .i64 a.1, .int .i64 a.2]] W fun e w' => e = .returned (rgV 0 0 0 0 (tM a b d)) ∧ Below W.heap.size W w') := hide (fun W => circM_any (sq a * (b.2 - d.2) + sq b * (d.2 - a.2) + sq d * (a.2 - b.2)) (sq a * (d.1 - b.1) + sq b * (a.1 - d.1) + sq d * (b.1 - a.1)) (2 * side a b d) a W (by omega) (by omega) (by omega) hp)
     generalize sq a = xa at *
     generalize sq b = xb at *
     generalize sq d = xd at *
     refine triM_ok a.1 a.2 b.1 b.2 d.1 d.2 _ w wS HS h0' (hide H1) (hide H2) (hide H3) xa xb xd _ _ _ _ (wr64 (by omega) (by omega)) (wr64 (by omega) (by omega)) qa (wr64 (by omega) (by omega)) (wr64 (by omega) (by omega)) qb (wr64 (by omega) (by omega)) (wr64 (by omega) (by omega)) qd (wr64 (by omega) (by omega)) (wr64 (by omega) (by omega)) (wr64 (by omega) (by omega)) (wr64 (by omega) (by omega)) (wr64 (by omega) (by omega)) (wr64 (by omega) (by omega)) (wr64 (by omega) (by omega)) (wr64 (by omega) (by omega)) (wr64 (by omega) (by omega)) (wr64 (by omega) (by omega)) (wr64 (by omega) (by omega)) (wr64 (by omega) (by omega)) (wr64 (by omega) (by omega)) (wr64 (by omega) (by omega)) (wr64 (by omega) (by omega)) (wr64 (by omega) (by omega)) H4
    ·rw [decide_eq_false h3] at H3
     obtain ⟨e1, e2⟩ := bad (fun h => h3 h.2.2.2)
     rw [e1, e2]
     exact triM_o3 a.1 a.2 b.1 b.2 d.1 d.2 _ w wS HS h0' (hide H1) (hide H2) (hide H3)
   ·rw [decide_eq_false h2] at H2
    obtain ⟨e1, e2⟩ := bad (fun h => h2 h.2.2.1)
    rw [e1, e2]
    exact triM_o2 a.1 a.2 b.1 b.2 d.1 d.2 _ w wS HS h0' (hide H1) (hide H2)
  ·rw [decide_eq_false h1] at H1
   obtain ⟨e1, e2⟩ := bad (fun h => h1 h.2.1)
   rw [e1, e2]
   exact triM_o1 a.1 a.2 b.1 b.2 d.1 d.2 _ w wS HS h0' (hide H1)
theorem ptAt_take {P : List Pt} {i j : Nat} (h : j < i) : ptAt (P.take i) j = ptAt P j := by
 unfold ptAt
 rw [List.getD_eq_getElem?_getD, List.getD_eq_getElem?_getD, List.getElem?_take, if_pos h]
theorem smcI_take (f : List Pt → List Pt → Ic) (P R : List Pt) (n : Nat) : ∀ i, i ≤ n → smcI f (P.take n) R i = smcI f P R i := by
 intro i
 induction i with
 | zero => intro _; rfl
 | succ i ih =>
  intro h
  have e := ih (by omega)
  unfold smcI
  rw [e, ptAt_take (by omega), List.take_take, Nat.min_eq_left (by omega)]
theorem smc_next (k : Nat) (P R : List Pt) (hl : R.length + (k + 1) = 3) (hg : Gd R) (hF : ∃ c, Fea P R c) (i : Nat) (hi : i < P.length) (hout : (smcI (smc k) P R i).N < apt (smcI (smc k) P R i) (ptAt P i)) :
  Gd (R ++ [ptAt P i]) ∧ ∃ c, Fea (P.take i) (R ++ [ptAt P i]) c := by
 obtain ⟨cF, hF⟩ := hF
 by_cases h0 : R ≠ [] ∨ 1 ≤ i
 ·have hFi : Fea (P.take i) R cF := hF.sub (fun q hq => List.mem_of_mem_take hq)
  obtain ⟨c0, S0, hI0, hM0, hS0⟩ := smc_md (k + 1) (P.take i) R hl hg ⟨cF, hFi⟩ (by
   rcases h0 with h | h
   ·exact .inl h
   ·right
    intro e
    have := congrArg List.length e
    rw [List.length_take, Nat.min_eq_left (by omega), List.length_nil] at this
    omega)
  have e : smc (k + 1) (P.take i) R = smcI (smc k) P R i := by
   show smcI (smc k) (P.take i) R (P.take i).length = _
   rw [List.length_take, Nat.min_eq_left (by omega)]
   exact smcI_take (smc k) P R i i (Nat.le_refl _)
  rw [e] at hI0
  have hp := (hI0.out (ptAt P i)).2 hout
  have hF1 : Fea (P.take i ++ [ptAt P i]) R cF := hF.sub (fun q hq => by rw [← take_ptAt hi] at hq; exact List.mem_of_mem_take hq)
  obtain ⟨c2, hF2⟩ := hM0.fea.mix hF1 hp
  exact ⟨gd_more (by omega) hg hM0.fea.rim hp hF2.rim, ⟨c2, hF2⟩⟩
 ·have hR : R = [] := by
   by_cases h : R = []
   ·exact h
   ·exact absurd (.inl h) h0
  have hi0 : i = 0 := by
   by_cases h : i = 0
   ·exact h
   ·exact absurd (.inr (by omega)) h0
  subst hi0
  rw [hR]
  exact ⟨trivial, ⟨_, (thr1 (ptAt P 0)).2.fea⟩⟩
def Nrl (L : List Pt) : Prop := ∀ p ∈ L, Nr1 p
theorem sqs_bd {a b : Pt} (ha : Nr1 a) (hb : Nr1 b) : 0 ≤ sq (sub b a) ∧ sq (sub b a) ≤ 320000 := by
 obtain ⟨a1, a2, a3, a4⟩ := ha
 obtain ⟨b1, b2, b3, b4⟩ := hb
 have m1 := mulB (x := b.1 - a.1) (y := b.1 - a.1) (a := 400) (b := 400) (by omega) (by omega) (by omega) (by omega)
 have m2 := mulB (x := b.2 - a.2) (y := b.2 - a.2) (a := 400) (b := 400) (by omega) (by omega) (by omega) (by omega)
 have c := mul_self_ge (b.1 - a.1)
 have d := mul_self_ge (b.2 - a.2)
 unfold sq sub
 simp only
 omega
theorem ctr_bd {a b c : Pt} (ha : Nr1 a) (hb : Nr1 b) (hc : Nr1 c) :
  (-128000000 ≤ a.1 * (2 * side a b c) ∧ a.1 * (2 * side a b c) ≤ 128000000) ∧ (-128000000 ≤ a.2 * (2 * side a b c) ∧ a.2 * (2 * side a b c) ≤ 128000000) ∧
  (-128000000 ≤ (c.2 - a.2) * sq (sub b a) ∧ (c.2 - a.2) * sq (sub b a) ≤ 128000000) ∧ (-128000000 ≤ (b.2 - a.2) * sq (sub c a) ∧ (b.2 - a.2) * sq (sub c a) ≤ 128000000) ∧
  (-128000000 ≤ (b.1 - a.1) * sq (sub c a) ∧ (b.1 - a.1) * sq (sub c a) ≤ 128000000) ∧ (-128000000 ≤ (c.1 - a.1) * sq (sub b a) ∧ (c.1 - a.1) * sq (sub b a) ≤ 128000000) := by
 have hS := side_bd2 ha hb hc
 have s1 := sqs_bd ha hb
 have s2 := sqs_bd ha hc
 obtain ⟨a1, a2, a3, a4⟩ := ha
 obtain ⟨b1, b2, b3, b4⟩ := hb
 obtain ⟨c1, c2, c3, c4⟩ := hc
 have m1 := mulB (x := a.1) (y := 2 * side a b c) (a := 200) (b := 640000) (by omega) (by omega) (by omega) (by omega)
 have m2 := mulB (x := a.2) (y := 2 * side a b c) (a := 200) (b := 640000) (by omega) (by omega) (by omega) (by omega)
 have m3 := mulB (x := c.2 - a.2) (y := sq (sub b a)) (a := 400) (b := 320000) (by omega) (by omega) (by omega) (by omega)
 have m4 := mulB (x := b.2 - a.2) (y := sq (sub c a)) (a := 400) (b := 320000) (by omega) (by omega) (by omega) (by omega)
 have m5 := mulB (x := b.1 - a.1) (y := sq (sub c a)) (a := 400) (b := 320000) (by omega) (by omega) (by omega) (by omega)
 have m6 := mulB (x := c.1 - a.1) (y := sq (sub b a)) (a := 400) (b := 320000) (by omega) (by omega) (by omega) (by omega)
 refine ⟨?_, ?_, ?_, ?_, ?_, ?_⟩ <;> constructor <;> omega
theorem sgn_cases {w : Int} (h : w ≠ 0) : (0 < w ∧ sgn w = 1) ∨ (w < 0 ∧ sgn w = -1) := by
 unfold sgn
 by_cases h1 : 0 < w
 ·rw [if_pos h1]; exact .inl ⟨h1, rfl⟩
 ·rw [if_neg h1, if_pos (by omega)]; exact .inr ⟨by omega, rfl⟩
theorem ctr_nr {a b c : Pt} (ha : Nr1 a) (hb : Nr1 b) (hc : Nr1 c) (hs : side a b c ≠ 0) : NrS (ctr a b c) := by
 have B := ctr_bd ha hb hc
 have hS := side_bd2 ha hb hc
 unfold ctr
 rcases sgn_cases (w := 2 * side a b c) (by omega) with ⟨h, e⟩ | ⟨h, e⟩
 ·rw [e]; exact red_nr (by omega) (by omega) (by omega)
 ·rw [e]; exact red_nr (by omega) (by omega) (by omega)
theorem thr_nr {R : List Pt} (hN : Nrl R) (hg : Gd R) : NrS ((thr R).X, (thr R).Y, (thr R).D) := by
 match R, hN, hg with
 | [], _, _ => exact ⟨by decide, by decide, by decide, by decide, by decide, by decide⟩
 | [a], hN, _ =>
  obtain ⟨a1, a2, a3, a4⟩ := hN a (by simp)
  exact red_nr (by omega) (by omega) (by omega)
 | [a, b], hN, _ =>
  obtain ⟨a1, a2, a3, a4⟩ := hN a (by simp)
  obtain ⟨b1, b2, b3, b4⟩ := hN b (by simp)
  exact red_nr (by omega) (by omega) (by omega)
 | a :: b :: c :: T, hN, hg => exact ctr_nr (hN a (by simp)) (hN b (by simp)) (hN c (by simp)) hg
theorem Nrl.take {P : List Pt} (h : Nrl P) (i : Nat) : Nrl (P.take i) := fun p hp => h p (List.mem_of_mem_take hp)
theorem Nrl.at {P : List Pt} (h : Nrl P) {i : Nat} (hi : i < P.length) : Nr1 (ptAt P i) := h _ (List.mem_of_getElem? (ptAt_some hi))
theorem Nrl.snoc {R : List Pt} (h : Nrl R) {p : Pt} (hp : Nr1 p) : Nrl (R ++ [p]) := fun q hq => by
 rcases List.mem_append.1 hq with h1 | h1
 ·exact h q h1
 ·rw [List.mem_singleton.1 h1]; exact hp
theorem smc_nr : ∀ (k : Nat) (P R : List Pt), R.length + k = 3 → Gd R → (∃ c, Fea P R c) → Nrl P → Nrl R → NrS ((smc k P R).X, (smc k P R).Y, (smc k P R).D) ∧ ∀ j, k = j + 1 → ∀ i, i ≤ P.length → NrS ((smcI (smc j) P R i).X, (smcI (smc j) P R i).Y, (smcI (smc j) P R i).D) := by
 intro k
 induction k with
 | zero =>
  intro P R hl hg hF hP hR
  exact ⟨thr_nr hR hg, fun j hj => by omega⟩
 | succ k ih =>
  intro P R hl hg hF hP hR
  have loop : ∀ i, i ≤ P.length → NrS ((smcI (smc k) P R i).X, (smcI (smc k) P R i).Y, (smcI (smc k) P R i).D) := by
   intro i
   induction i with
   | zero => intro _; exact thr_nr hR hg
   | succ i ihi =>
    intro hi
    have h0 := ihi (by omega)
    unfold smcI
    by_cases hout : (smcI (smc k) P R i).N < apt (smcI (smc k) P R i) (ptAt P i)
    ·rw [if_pos hout]
     obtain ⟨g, f⟩ := smc_next k P R hl hg hF i (by omega) hout
     exact (ih (P.take i) (R ++ [ptAt P i]) (by rw [List.length_append]; simp; omega) g f (hP.take i) (hR.snoc (hP.at (by omega)))).1
    ·rw [if_neg hout]; exact h0
  refine ⟨loop P.length (Nat.le_refl _), fun j hj => ?_⟩
  obtain rfl : k = j := by omega
  exact loop
end Go.Proofs.Ytdcecfgmfmpeeaa
