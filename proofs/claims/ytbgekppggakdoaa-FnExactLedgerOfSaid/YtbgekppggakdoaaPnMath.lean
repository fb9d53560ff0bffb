/-
  The plant in plain terms: right shops, slots held against what stands, and how a plan is judged.
-/
import Derived.Test.YtbgekppggakdoaaNmMath
namespace Go.Proofs.Ytbgekppggakdoaa
set_option linter.unusedVariables false
set_option linter.unusedSimpArgs false

/-- x lies between a and b -/
def inR (a b x : Int) : Bool := decide (a ≤ x) && decide (x ≤ b)
theorem inR_iff {a b x : Int} : inR a b x = true ↔ a ≤ x ∧ x ≤ b := by simp [inR]
theorem inR_f1 {a b x : Int} (h : x < a) : inR a b x = false := by
  cases hq : inR a b x with
  | false => rfl
  | true => have := inR_iff.1 hq; omega
theorem inR_f2 {a b x : Int} (h : b < x) : inR a b x = false := by
  cases hq : inR a b x with
  | false => rfl
  | true => have := inR_iff.1 hq; omega
/-- a step: machine, time, tool, wear -/
structure Stp where
  m : Int
  t : Int
  l : Int
  e : Int
/-- a job, and where its steps lie -/
structure Jb where
  nm : ByteArray
  due : Int
  su : Option Addr
  sn : Nat
  sc : Nat
  sp : Nat
  so : Nat
  st : List Stp
/-- a slot -/
structure Slt where
  jb : Int
  st : Int
  mc : Int
  fr : Int
  ti : Int
  fs : Bool
def stOk (N L : Int) (s : Stp) : Bool := inR 0 (N - 1) s.m && (inR 1 1000 s.t && (inR 0 9 s.l && inR 0 L s.e))
def jbOk (N L : Int) (j : Jb) : Bool := nameB j.nm && (inR 0 1000000 j.due && (inR 1 8 (j.st.length : Int) && j.st.all (stOk N L)))
def names (J : List Jb) : List ByteArray := J.map Jb.nm
noncomputable def shOk (N S L : Int) (J : List Jb) : Bool := inR 1 6 N && (inR 0 1000 S && (inR 1 1000 L && (decide (J.length ≤ 20) && (J.all (jbOk N L) && decide (names J).Nodup))))
theorem names_take {J : List Jb} {k : Nat} {j : Jb} (h : J[k]? = some j) : names (J.take (k + 1)) = names (J.take k) ++ [j.nm] := by
  rw [List.take_add_one, h]; simp [names]
theorem alls_take {α : Type} (p : α → Bool) {L : List α} {i : Nat} {x : α} (hx : L[i]? = some x) : (L.take (i + 1)).all p = ((L.take i).all p && p x) := by
  rw [List.take_add_one, hx]
  simp
theorem alls_not {α : Type} (p : α → Bool) {L : List α} {i : Nat} {x : α} (hx : L[i]? = some x) (h : p x = false) : L.all p = false := by
  cases hq : L.all p with
  | false => rfl
  | true =>
    have := List.all_eq_true.1 hq x (List.mem_of_getElem? hx)
    rw [h] at this
    cases this
theorem alls_full {α : Type} (p : α → Bool) {L : List α} {n : Nat} (hl : L.length ≤ n) (h : (L.take n).all p = true) : L.all p = true := by
  rwa [List.take_of_length_le hl] at h
theorem get_som {α : Type} {L : List α} {n i : Nat} (hl : L.length = n) (h : i < n) : ∃ x, L[i]? = some x := ⟨L[i]'(by omega), List.getElem?_eq_getElem _⟩
theorem stOk_iff {N L : Int} {s : Stp} : stOk N L s = true ↔ 0 ≤ s.m ∧ s.m < N ∧ 1 ≤ s.t ∧ s.t ≤ 1000 ∧ 0 ≤ s.l ∧ s.l ≤ 9 ∧ 0 ≤ s.e ∧ s.e ≤ L := by
  simp only [stOk, Bool.and_eq_true, inR_iff]
  constructor
  · rintro ⟨⟨a, b⟩, ⟨c, d⟩, ⟨e, f⟩, g, h⟩; exact ⟨a, by omega, c, d, e, f, g, h⟩
  · rintro ⟨a, b, c, d, e, f, g, h⟩; exact ⟨⟨a, by omega⟩, ⟨c, d⟩, ⟨e, f⟩, g, h⟩
theorem stOk_no {N L : Int} {s : Stp} (h : ¬ (0 ≤ s.m ∧ s.m < N ∧ 1 ≤ s.t ∧ s.t ≤ 1000 ∧ 0 ≤ s.l ∧ s.l ≤ 9 ∧ 0 ≤ s.e ∧ s.e ≤ L)) : stOk N L s = false := by
  cases hq : stOk N L s with
  | false => rfl
  | true => exact absurd (stOk_iff.1 hq) h
theorem shOk_iff {N S L : Int} {J : List Jb} : shOk N S L J = true ↔ (1 ≤ N ∧ N ≤ 6) ∧ (0 ≤ S ∧ S ≤ 1000) ∧ (1 ≤ L ∧ L ≤ 1000) ∧ J.length ≤ 20 ∧ (∀ j ∈ J, jbOk N L j = true) ∧ (names J).Nodup := by
  simp [shOk, inR_iff, and_assoc]
theorem jbOk_len {N L : Int} {j : Jb} (h : jbOk N L j = true) : 1 ≤ j.st.length ∧ j.st.length ≤ 8 := by
  simp only [jbOk, Bool.and_eq_true, inR_iff] at h; omega
theorem jbOk_due {N L : Int} {j : Jb} (h : jbOk N L j = true) : 0 ≤ j.due ∧ j.due ≤ 1000000 := by
  simp only [jbOk, Bool.and_eq_true, inR_iff] at h; omega
theorem jbOk_st {N L : Int} {j : Jb} (h : jbOk N L j = true) {s : Stp} (hs : s ∈ j.st) : 0 ≤ s.m ∧ s.m < N ∧ 1 ≤ s.t ∧ s.t ≤ 1000 ∧ 0 ≤ s.l ∧ s.l ≤ 9 ∧ 0 ≤ s.e ∧ s.e ≤ L := by
  simp only [jbOk, Bool.and_eq_true, List.all_eq_true] at h
  exact stOk_iff.1 (h.2.2.2 s hs)
/-- a machine at work: its tool, the tool's wear, when it is free -/
structure Mch where
  tl : Int
  wr : Int
  fr : Int
/-- what is behind the slots so far: machines; of each job how many steps are done and when the last one ended -/
structure Hl where
  ms : List Mch
  pg : List (Nat × Int)
def mc0 : Mch := ⟨-1, 0, 0⟩
def st0 : Stp := ⟨0, 0, 0, 0⟩
/-- the step that a slot names -/
def stOf (J : List Jb) (p : Slt) : Option Stp :=
  if p.jb < 0 then none else
  match J[p.jb.toNat]? with
  | none => none
  | some j => if p.st < 0 then none else
    match j.st[p.st.toNat]? with
    | none => none
    | some s => if s.m = p.mc then some s else none
def mAt (h : Hl) (i : Int) : Mch := h.ms.getD i.toNat mc0
def gAt (h : Hl) (i : Int) : Nat × Int := h.pg.getD i.toNat (0, 0)
def frsh (L : Int) (m : Mch) (s : Stp) : Bool := !(m.tl == s.l && decide (m.wr + s.e ≤ L))
def lon (S : Int) (f : Bool) (s : Stp) : Int := s.t + if f then S else 0
/-- what is wrong with a slot -/
def sCd (S L : Int) (J : List Jb) (h : Hl) (p : Slt) : Int :=
  match stOf J p with
  | none => 8
  | some s =>
    if p.st < (gAt h p.jb).1 then 7 else
    if p.fr < 0 ∨ 1000000000 < p.fr then 5 else
    if ((gAt h p.jb).1 : Int) < p.st then 13 else
    if p.fr < max (gAt h p.jb).2 (mAt h p.mc).fr then 13 else
    if p.fs ≠ frsh L (mAt h p.mc) s then 16 else
    if p.ti ≠ p.fr + lon S p.fs s then 19 else 0
/-- a machine behind a step -/
def mDo (m : Mch) (s : Stp) (f : Bool) (ti : Int) : Mch := ⟨s.l, (if f then 0 else m.wr) + s.e, ti⟩
def sDo (J : List Jb) (h : Hl) (p : Slt) : Hl :=
  ⟨h.ms.set p.mc.toNat (mDo (mAt h p.mc) ((stOf J p).getD st0) p.fs p.ti), h.pg.set p.jb.toNat (p.st.toNat + 1, p.ti)⟩
def h0 (N : Int) (J : List Jb) : Hl := ⟨List.replicate N.toNat mc0, List.replicate J.length (0, 0)⟩
/-- behind these slots -/
def hal (N : Int) (J : List Jb) (P : List Slt) : Hl := P.foldl (sDo J) (h0 N J)
theorem hal_take (N : Int) (J : List Jb) {P : List Slt} {i : Nat} {p : Slt} (h : P[i]? = some p) : hal N J (P.take (i + 1)) = sDo J (hal N J (P.take i)) p := by
  unfold hal
  rw [List.take_add_one, h]
  simp
/-- the code at slot i -/
def cAt (N S L : Int) (J : List Jb) (P : List Slt) (i : Nat) : Int :=
  match P[i]? with
  | none => 0
  | some p => sCd S L J (hal N J (P.take i)) p
/-- the slots up to i are right -/
def Up (N S L : Int) (J : List Jb) (P : List Slt) (i : Nat) : Prop := ∀ k, k < i → cAt N S L J P k = 0
/-- a job has a step left -/
def lft (J : List Jb) (h : Hl) (q : Nat) : Bool := decide ((h.pg.getD q (0, 0)).1 < (J[q]?.map (fun j => j.st.length)).getD 0)
def anyL (J : List Jb) (h : Hl) : Bool := (List.range J.length).any (lft J h)
/-- how a plan of right shops is judged -/
structure Pc (N S L : Int) (J : List Jb) (P : List Slt) (c : Int) (n : Nat) : Prop where
  up : Up N S L J P (min n P.length)
  bad : n < P.length → cAt N S L J P n = c ∧ c ≠ 0
theorem stOf_some {J : List Jb} {p : Slt} {s : Stp} (h : stOf J p = some s) : 0 ≤ p.jb ∧ 0 ≤ p.st ∧ s.m = p.mc ∧ ∃ j, J[p.jb.toNat]? = some j ∧ j.st[p.st.toNat]? = some s := by
  unfold stOf at h
  split at h
  · cases h
  · split at h
    · cases h
    · rename_i j hj
      split at h
      · cases h
      · split at h
        · cases h
        · rename_i s' hs
          split at h
          · cases h
            exact ⟨by omega, by omega, by assumption, j, hj, hs⟩
          · cases h
theorem stOf_mk {J : List Jb} {p : Slt} {j : Jb} {s : Stp} (h1 : 0 ≤ p.jb) (h2 : 0 ≤ p.st) (hj : J[p.jb.toNat]? = some j) (hs : j.st[p.st.toNat]? = some s) (hm : s.m = p.mc) : stOf J p = some s := by
  unfold stOf
  rw [if_neg (by omega), hj]
  simp only []
  rw [if_neg (by omega), hs]
  simp only []
  rw [if_pos hm]
/-- the sum of what is done -/
def dones (G : List (Nat × Int)) : Nat := (G.map Prod.fst).sum
theorem dones_set {G : List (Nat × Int)} {q : Nat} {g : Nat × Int} (h : G[q]? = some g) (e : Int) : dones (G.set q (g.1 + 1, e)) = dones G + 1 := by
  induction G generalizing q with
  | nil => cases h
  | cons x G ih =>
    cases q with
    | zero => simp only [List.getElem?_cons_zero, Option.some.injEq] at h; subst h; simp [dones]; omega
    | succ q => simp only [List.getElem?_cons_succ] at h; have := ih h; simp only [dones, List.set_cons_succ, List.map_cons, List.sum_cons] at this ⊢; omega
/-- what holds behind right slots -/
structure Hv (N S L : Int) (J : List Jb) (P : List Slt) (h : Hl) : Prop where
  ml : h.ms.length = N.toNat
  gl : h.pg.length = J.length
  msk : ∀ m ∈ h.ms, 0 ≤ m.wr ∧ m.wr ≤ L ∧ 0 ≤ m.fr ∧ m.fr ≤ 1000002000
  pgk : ∀ (q : Nat) (g : Nat × Int) (j : Jb), h.pg[q]? = some g → J[q]? = some j → g.1 ≤ j.st.length ∧ 0 ≤ g.2 ∧ g.2 ≤ 1000002000 ∧ (g.1 = 0 → g.2 = 0)
  rng : ∀ p ∈ P, 0 ≤ p.jb ∧ p.jb < J.length
  sn : ∀ p ∈ P, 0 ≤ p.st ∧ p.st < ((gAt h p.jb).1 : Int)
  all : ∀ (q : Nat) (g : Nat × Int), h.pg[q]? = some g → ∀ t : Nat, t < g.1 → ∃ p ∈ P, p.jb = q ∧ p.st = t
  lst : ∀ p ∈ P, p.st + 1 = ((gAt h p.jb).1 : Int) → p.ti = (gAt h p.jb).2
  cnt : P.length = dones h.pg
theorem getD_some {α : Type} {l : List α} {i : Nat} {x d : α} (h : l[i]? = some x) : l.getD i d = x := by rw [List.getD_eq_getElem?_getD, h]; rfl
theorem Hv.nil (N S L : Int) (J : List Jb) (hL : 0 ≤ L) : Hv N S L J [] (h0 N J) := by
  refine ⟨by simp [h0], by simp [h0], ?_, ?_, by simp, by simp, ?_, by simp, ?_⟩
  · intro m hm
    simp only [h0, List.mem_replicate] at hm
    rw [hm.2]
    exact ⟨by decide, hL, by decide, by decide⟩
  · intro q g j hg hj
    simp only [h0, List.getElem?_replicate] at hg
    split at hg
    · cases hg; simp
    · cases hg
  · intro q g hg t ht
    simp only [h0, List.getElem?_replicate] at hg
    split at hg
    · cases hg; simp at ht
    · cases hg
  · simp [h0, dones]
theorem sCd_zero {S L : Int} {J : List Jb} {h : Hl} {p : Slt} (hz : sCd S L J h p = 0) :
    ∃ s, stOf J p = some s ∧ ((gAt h p.jb).1 : Int) = p.st ∧ 0 ≤ p.fr ∧ p.fr ≤ 1000000000 ∧ (gAt h p.jb).2 ≤ p.fr ∧ (mAt h p.mc).fr ≤ p.fr ∧ p.fs = frsh L (mAt h p.mc) s ∧ p.ti = p.fr + lon S p.fs s := by
  unfold sCd at hz
  split at hz
  · cases hz
  · rename_i s hs
    split at hz
    · cases hz
    split at hz
    · cases hz
    split at hz
    · cases hz
    split at hz
    · cases hz
    split at hz
    · cases hz
    split at hz
    · cases hz
    rename_i a b c d e f
    exact ⟨s, hs, by omega, by omega, by omega, by omega, by omega, by simpa using e, by simpa using f⟩
theorem Hv.step {N S L : Int} {J : List Jb} {P : List Slt} {h : Hl} (H : Hv N S L J P h) (hN : 1 ≤ N) (hS : 0 ≤ S ∧ S ≤ 1000) (hJ : ∀ j ∈ J, jbOk N L j = true) {p : Slt} (hz : sCd S L J h p = 0) : Hv N S L J (P ++ [p]) (sDo J h p) := by
  obtain ⟨s, hs, hd, f0, f1, f2, f3, f4, f5⟩ := sCd_zero hz
  obtain ⟨j0, s0, hm, j, hj, hsj⟩ := stOf_some hs
  have hjl : p.jb.toNat < J.length := (List.getElem?_eq_some_iff.1 hj).1
  have hg : h.pg[p.jb.toNat]? = some (gAt h p.jb) := by
    unfold gAt
    rw [List.getD_eq_getElem?_getD, List.getElem?_eq_getElem (by rw [H.gl]; exact hjl)]
    rfl
  obtain ⟨k1, k2, k3, k4, k5, k6, k7, k8⟩ := jbOk_st (hJ j (List.mem_of_getElem? hj)) (List.mem_of_getElem? hsj)
  have hml : p.mc.toNat < h.ms.length := by rw [H.ml]; omega
  have hmi : h.ms[p.mc.toNat]? = some (mAt h p.mc) := by
    unfold mAt
    rw [List.getD_eq_getElem?_getD, List.getElem?_eq_getElem hml]
    rfl
  obtain ⟨m1, m2, m3, m4⟩ := H.msk _ (List.mem_of_getElem? hmi)
  have hst : p.st.toNat + 1 = (gAt h p.jb).1 + 1 := by omega
  have hsl : p.st.toNat < j.st.length := (List.getElem?_eq_some_iff.1 hsj).1
  have hti : p.fr ≤ p.ti ∧ p.ti ≤ p.fr + 2000 ∧ p.fr < p.ti := by
    rw [f5]; unfold lon; split <;> omega
  have hgA : ∀ q : Nat, (sDo J h p).pg[q]? = if q = p.jb.toNat then some ((gAt h p.jb).1 + 1, p.ti) else h.pg[q]? := by
    intro q
    simp only [sDo, hst]
    rw [List.getElem?_set]
    by_cases e : p.jb.toNat = q
    · rw [if_pos e, if_pos e.symm, if_pos (by rw [H.gl]; omega)]
    · rw [if_neg e, if_neg (fun h => e h.symm)]
  have hgB : ∀ q : Int, 0 ≤ q → gAt (sDo J h p) q = if q = p.jb then ((gAt h p.jb).1 + 1, p.ti) else gAt h q := by
    intro q hq
    show (sDo J h p).pg.getD q.toNat (0, 0) = _
    rw [List.getD_eq_getElem?_getD, hgA]
    by_cases e : q = p.jb
    · rw [if_pos (by omega), if_pos e]; rfl
    · rw [if_neg (by omega), if_neg e, ← List.getD_eq_getElem?_getD]; rfl
  refine ⟨by simp only [sDo, List.length_set]; exact H.ml, by simp only [sDo, List.length_set]; exact H.gl, ?_, ?_, ?_, ?_, ?_, ?_, ?_⟩
  · intro m hm'
    simp only [sDo] at hm'
    rcases List.mem_or_eq_of_mem_set hm' with h1 | h1
    · exact H.msk m h1
    · rw [h1, hs]
      refine ⟨?_, ?_, ?_, ?_⟩
      · show 0 ≤ (if p.fs = true then 0 else (mAt h p.mc).wr) + s.e
        split <;> omega
      · show (if p.fs = true then 0 else (mAt h p.mc).wr) + s.e ≤ L
        split
        · omega
        · rename_i hf
          rw [f4] at hf
          simp only [frsh, Bool.not_eq_true, Bool.not_eq_false', Bool.and_eq_true, decide_eq_true_eq] at hf
          exact hf.2
      · show 0 ≤ p.ti; omega
      · show p.ti ≤ 1000002000; omega
  · intro q g j' hq hj'
    rw [hgA] at hq
    split at hq
    · rename_i e
      subst e
      rw [hj] at hj'
      cases hj'
      cases hq
      exact ⟨by simp only; omega, by simp only; omega, by simp only; omega, by simp⟩
    · exact H.pgk q g j' hq hj'
  · intro x hx
    rcases List.mem_append.1 hx with h1 | h1
    · exact H.rng x h1
    · simp only [List.mem_singleton] at h1; subst h1; omega
  · intro x hx
    rcases List.mem_append.1 hx with h1 | h1
    · have r := H.rng x h1
      have s1 := H.sn x h1
      rw [hgB _ r.1]
      split
      · rename_i e; rw [e] at s1; simp only; omega
      · exact s1
    · simp only [List.mem_singleton] at h1; subst h1
      rw [hgB _ j0, if_pos rfl]; simp only; omega
  · intro q g hq t ht
    rw [hgA] at hq
    split at hq
    · rename_i e
      cases hq
      simp only at ht
      by_cases e2 : t = (gAt h p.jb).1
      · exact ⟨p, by simp, by omega, by omega⟩
      · obtain ⟨x, hx, x1, x2⟩ := H.all _ _ hg t (by omega)
        exact ⟨x, by simp [hx], by omega, x2⟩
    · obtain ⟨x, hx, x1, x2⟩ := H.all _ _ hq t ht
      exact ⟨x, by simp [hx], x1, x2⟩
  · intro x hx
    rcases List.mem_append.1 hx with h1 | h1
    · have r := H.rng x h1
      have s1 := H.sn x h1
      rw [hgB _ r.1]
      split
      · rename_i e; rw [e] at s1; simp only; omega
      · exact H.lst x h1
    · simp only [List.mem_singleton] at h1; subst h1
      intro _
      rw [hgB _ j0, if_pos rfl]
  · simp only [List.length_append, List.length_singleton, sDo, hst]
    rw [dones_set hg, H.cnt]
theorem Hv.up {N S L : Int} {J : List Jb} {P : List Slt} (hN : 1 ≤ N) (hS : 0 ≤ S ∧ S ≤ 1000) (hL : 0 ≤ L) (hJ : ∀ j ∈ J, jbOk N L j = true) (i : Nat) (hi : i ≤ P.length) (hu : Up N S L J P i) : Hv N S L J (P.take i) (hal N J (P.take i)) := by
  induction i with
  | zero => simpa [hal] using Hv.nil N S L J hL
  | succ i ih =>
    have h1 := ih (by omega) (fun k hk => hu k (by omega))
    have hx : P[i]? = some P[i] := List.getElem?_eq_getElem (by omega)
    rw [hal_take N J hx, List.take_add_one, hx]
    refine h1.step hN hS hJ ?_
    have := hu i (by omega)
    unfold cAt at this
    rw [hx] at this
    exact this
end Go.Proofs.Ytbgekppggakdoaa
