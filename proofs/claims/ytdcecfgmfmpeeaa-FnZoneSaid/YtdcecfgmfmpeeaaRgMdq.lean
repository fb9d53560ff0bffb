/-
  The model's RingOf at every list: it is the program's. What the law on strips and circles asks, in lists.
-/
import Derived.Test.YtdcecfgmfmpeeaaRgMcq
namespace Go.Proofs.Ytdcecfgmfmpeeaa
open Go.ChangeShapes Go.WideShapes Go.ChangeAt Go.RowKit
set_option linter.unusedVariables false
set_option linter.unusedSimpArgs false
theorem fp_true {Q : Nat → Nat → Bool} : ∀ {L : List Nat} {i j : Nat}, fp Q L = some (i, j) → Q i j = true ∧ i ∈ L ∧ j ∈ L
 | a :: L, i, j, h => by
  unfold fp at h
  cases hf : L.find? (Q a) with
  | some b =>
   rw [hf] at h
   cases h
   exact ⟨List.find?_some hf, by simp, List.mem_cons_of_mem _ (List.mem_of_find?_eq_some hf)⟩
  | none =>
   rw [hf] at h
   obtain ⟨h1, h2, h3⟩ := fp_true h
   exact ⟨h1, List.mem_cons_of_mem _ h2, List.mem_cons_of_mem _ h3⟩
theorem fp_lt {Q : Nat → Nat → Bool} : ∀ {L : List Nat} {i j : Nat}, L.Pairwise (· < ·) → fp Q L = some (i, j) → i < j
 | a :: L, i, j, hs, h => by
  unfold fp at h
  obtain ⟨s1, s2⟩ := List.pairwise_cons.1 hs
  cases hf : L.find? (Q a) with
  | some b =>
   rw [hf] at h
   cases h
   exact s1 _ (List.mem_of_find?_eq_some hf)
  | none =>
   rw [hf] at h
   exact fp_lt s2 h
theorem ft_true {Q : Nat → Nat → Nat → Bool} : ∀ {L : List Nat} {i j l : Nat}, ft Q L = some (i, j, l) → Q i j l = true ∧ i ∈ L ∧ j ∈ L ∧ l ∈ L
 | a :: L, i, j, l, h => by
  unfold ft at h
  cases hf : fp (Q a) L with
  | some b =>
   rw [hf] at h
   cases h
   obtain ⟨h1, h2, h3⟩ := fp_true hf
   exact ⟨h1, by simp, List.mem_cons_of_mem _ h2, List.mem_cons_of_mem _ h3⟩
  | none =>
   rw [hf] at h
   obtain ⟨h1, h2, h3, h4⟩ := ft_true h
   exact ⟨h1, List.mem_cons_of_mem _ h2, List.mem_cons_of_mem _ h3, List.mem_cons_of_mem _ h4⟩
theorem ft_lt {Q : Nat → Nat → Nat → Bool} : ∀ {L : List Nat} {i j l : Nat}, L.Pairwise (· < ·) → ft Q L = some (i, j, l) → i < j ∧ j < l
 | a :: L, i, j, l, hs, h => by
  unfold ft at h
  obtain ⟨s1, s2⟩ := List.pairwise_cons.1 hs
  cases hf : fp (Q a) L with
  | some b =>
   rw [hf] at h
   cases h
   exact ⟨s1 _ (fp_true hf).2.1, fp_lt s2 hf⟩
  | none =>
   rw [hf] at h
   exact ft_lt s2 h
theorem hull_two {P : List Pt} (h : 2 ≤ (hullM (srtU P)).length) : ∃ a ∈ P, ∃ b ∈ P, a ≠ b := by
 obtain ⟨hs, hm⟩ := srtU_facts P
 match hU : srtU P, hs, hm with
 | [], _, _ => rw [hU] at h; simp [hullM, half] at h
 | [p], _, _ => rw [hU] at h; simp [hullM, half] at h
 | p :: q :: T, hs, hm =>
  refine ⟨p, (hm p).1 (by simp), q, (hm q).1 (by simp), fun e => ?_⟩
  have h1 := (List.pairwise_cons.1 hs).1 q (by simp)
  rw [e, ltp_irrefl] at h1
  cases h1
theorem thr2_nr {a p : Pt} (ha : Nr1 a) (hp : Nr1 p) : NrS ((thr [a, p]).X, (thr [a, p]).Y, (thr [a, p]).D) := by
 obtain ⟨a1, a2, a3, a4⟩ := ha
 obtain ⟨p1, p2, p3, p4⟩ := hp
 exact red_nr (by omega) (by omega) (by omega)
theorem rim_some {P : List Pt} (hne : P ≠ []) (h2 : 2 ≤ (hullM (srtU P)).length) : fp (qP2 P (smc 3 P [])) (rimL P (smc 3 P [])) ≠ none ∨ ft (qP3 P) (rimL P (smc 3 P [])) ≠ none := by
 obtain ⟨k, S, hI, hM, hS⟩ := ring_md hne
 exact some_told hI hM hS (hull_two h2)
theorem rim_not_one {P : List Pt} (hne : P ≠ []) (h2 : 2 ≤ (hullM (srtU P)).length) : (rimL P (smc 3 P [])).length ≠ 1 := by
 intro h1
 obtain ⟨a, ha⟩ := List.length_eq_one_iff.1 h1
 have h := rim_some hne h2
 rw [ha] at h
 rcases h with h | h <;> exact h rfl
theorem main_ring {P : List Pt} (hne : P ≠ []) (h2 : 2 ≤ (hullM (srtU P)).length) {v : Value} (h : Ans (numL P) (qM2 P) (qM3 P) (fun i j => thr [ptAt P i, ptAt P j]) (fun i j l => triC (ptAt P i) (ptAt P j) (ptAt P l)) v) : v = rgA P := by
 obtain ⟨k, S, hI, hM, hS⟩ := ring_md hne
 have h1 := rim_not_one hne h2
 have hs := rim_some hne h2
 have e2 := pairs_eq hI hM
 have e3 := triples_eq hI hM
 have so := rimL_sort P (smc 3 P [])
 have mem := fun i => @rimL_mem P (smc 3 P []) i
 unfold rgA tolL
 rw [if_neg h1]
 cases hf : fp (qP2 P (smc 3 P [])) (rimL P (smc 3 P [])) with
 | some q =>
  obtain ⟨i, j⟩ := q
  have hv := h.1 i j (by rw [← e2, hf])
  have hc : thr [ptAt P i, ptAt P j] = smc 3 P [] := of_decide_eq_true (fp_true hf).1
  rw [hv]
  simp only
  rw [hc]
  rfl
 | none =>
  cases hg : ft (qP3 P) (rimL P (smc 3 P [])) with
  | none => exact absurd hg (by rcases hs with h | h; exact absurd hf h; exact h)
  | some q =>
   obtain ⟨i, j, l⟩ := q
   have hv := h.2 (by rw [← e2, hf]) i j l (by rw [← e3, hg])
   obtain ⟨t1, t2, t3, t4⟩ := ft_true hg
   obtain ⟨l1, l2⟩ := ft_lt so hg
   obtain ⟨_, a1, a2⟩ := (mem i).1 t2
   obtain ⟨_, b1, b2⟩ := (mem j).1 t3
   obtain ⟨_, d1, d2⟩ := (mem l).1 t4
   have hq : qM3 P i j l = true := (ft_true (L := numL P) (by rw [← e3, hg])).1
   have hok : triOk (ptAt P i) (ptAt P j) (ptAt P l) = true := by
    unfold qM3 at hq
    exact (Bool.and_eq_true_iff.1 hq).1
   have hc : triC (ptAt P i) (ptAt P j) (ptAt P l) = smc 3 P [] := by
    have e : triC (ptAt P i) (ptAt P j) (ptAt P l) = tM (ptAt P i) (ptAt P j) (ptAt P l) := by unfold triC; rw [hok]; rfl
    rw [e]
    exact tri_c (P := P) (S := S) hI (fst_ne a2 b2 l1) (fst_ne a2 d2 (by omega)) (fst_ne b2 d2 l2) a1 b1 d1
   rw [hv]
   simp only
   rw [hc]
   rfl
theorem one_all {P : List Pt} {p : Pt} (hne : P ≠ []) (h1 : hullM (srtU P) = [p]) : ∀ q ∈ P, q = p := by
 obtain ⟨k, S, hI, hM, hS⟩ := ring_md hne
 have hp : p ∈ P := hull_in (by rw [h1]; simp)
 have same : ∀ a ∈ P, ∀ b ∈ P, a = b := fun a ha b hb => by
  by_cases e : a = b
  ·exact e
  ·exfalso
   have two : ∀ i ∈ rimL P (smc 3 P []), ∀ j ∈ rimL P (smc 3 P []), i < j → False := fun i hi j hj hij => by
    obtain ⟨a0, a1, a2⟩ := rimL_mem.1 hi
    obtain ⟨b0, b1, b2⟩ := rimL_mem.1 hj
    have ea := rim_hull hI hM (ptAt_mem a0) a1
    have eb := rim_hull hI hM (ptAt_mem b0) b1
    rw [h1] at ea eb
    exact fst_ne a2 b2 hij ((List.mem_singleton.1 ea).trans (List.mem_singleton.1 eb).symm)
   rcases some_told hI hM hS ⟨a, ha, b, hb, e⟩ with h | h
   ·cases hf : fp (qP2 P (smc 3 P [])) (rimL P (smc 3 P [])) with
    | none => exact h hf
    | some q => exact two q.1 (fp_true hf).2.1 q.2 (fp_true hf).2.2 (fp_lt (rimL_sort P _) hf)
   ·cases hf : ft (qP3 P) (rimL P (smc 3 P [])) with
    | none => exact h hf
    | some q => exact two q.1 (ft_true hf).2.1 q.2.1 (ft_true hf).2.2.1 (ft_lt (rimL_sort P _) hf).1
 exact fun q hq => same q hq p hp
theorem one_ring {P : List Pt} {p : Pt} (hne : P ≠ []) (h1 : hullM (srtU P) = [p]) : rgA P = rgV 1 0 0 0 (cir (redM p.1 p.2 1) p) := by
 have hall := one_all hne h1
 have hp : p ∈ P := hull_in (by rw [h1]; simp)
 obtain ⟨k, S, hI, hM, hS⟩ := ring_md hne
 obtain ⟨t1, t2⟩ := thr1 p
 have hz := t2.fea.rim p (by simp)
 have hM2 : Md P [] [p] ⟨p.1, p.2, 0⟩ := by
  refine ⟨⟨fun q hq => ?_, fun r hr => (nomatch hr)⟩, fun s hs => ?_, fun s hs => ?_, fun v w a hS' _ => ?_⟩
  ·rw [hall q hq, hz]; exact Rat.le_refl
  ·rw [List.mem_singleton.1 hs]; exact hp
  ·rw [List.mem_singleton.1 hs]; exact hz
  ·exact hS' p (by simp)
 have ek := hM2.uniq hM
 rw [ek] at hI
 have ec : smc 3 P [] = thr [p] := hI.uniq t1
 have er : redM p.1 p.2 1 = red p.1 p.2 1 := by unfold redM; rw [if_neg (by decide)]
 have hf0 : fi P p = 0 := by
  have f := fi_fst hp
  rcases Nat.eq_zero_or_pos (fi P p) with h | h
  ·exact h
  ·exfalso
   have hl : 0 < P.length := by cases P with | nil => exact absurd rfl hne | cons a T => simp
   have h0 : P[0]? = some (ptAt P 0) := ptAt_some hl
   exact f.no 0 h (by rw [h0, hall _ (ptAt_mem hl)])
 have hrim : rimL P (smc 3 P []) = [0] := by
  have hmem : ∀ i ∈ rimL P (smc 3 P []), i = 0 := fun i hi => by
   obtain ⟨a0, _, a2⟩ := rimL_mem.1 hi
   rw [hall _ (ptAt_mem a0), hf0] at a2
   exact a2.symm
  have hso := rimL_sort P (smc 3 P [])
  have hn := (smc_told hne).1
  generalize rimL P (smc 3 P []) = A at *
  match A, hmem, hso, hn with
  | [], _, _, hn => exact absurd rfl hn
  | [a], hmem, _, _ => rw [hmem a (by simp)]
  | a :: b :: T, hmem, hso, _ =>
   have h3 := (List.pairwise_cons.1 hso).1 b (by simp)
   have := hmem a (by simp)
   have := hmem b (by simp)
   omega
 unfold rgA tolL
 rw [hrim, if_pos (show [0].length = 1 from rfl), ec, er]
 rfl
theorem rgM_any (b cap : Nat) (P : List Pt) (w : World) (hn : P.length ≤ 1048576) (hb : b < w.heap.size) (hI : IntsAt w b 0 (flat2 P)) :
  Calls Try.prog 11 #[.slice (some ⟨b, 0, none⟩) P.length cap] w fun e w' => e = .returned (.tuple #[rgR P, .int .i64 (mcC P)]) ∧ Below w.heap.size w w' := by
 by_cases h4 : 4096 < P.length
 ·have hm : mcC P = 2 := by unfold mcC; rw [if_pos h4]
  have hr : rgR P = .agg #[.int .i64 0, .int .i64 0, .int .i64 0, .int .i64 0, .int .i64 0, .int .i64 0, .int .i64 0, .int .i64 0] := by unfold rgR; rw [if_pos (by rw [hm]; decide)]
  rw [hm, hr]
  exact mrM_long b cap P.length w h4
 ·by_cases hg : 1 ≤ P.length ∧ P.length ≤ 200 ∧ P.all nrP = true
  ·have hm : mcC P = 0 := by unfold mcC; rw [if_neg h4, if_pos hg]
   have hr : rgR P = rgA P := by unfold rgR; rw [if_neg (fun h => h hm)]
   rw [hm, hr]
   have hne : P ≠ [] := fun e => by rw [e] at hg; simp at hg
   have hN := nrl_all hg.2.2
   have HNR : Hid (∀ X : World, Below w.heap.size w X → Calls Try.prog 27 #[.slice (some ⟨b, 0, none⟩) P.length cap] X fun e w' => e = .returned (.bool true) ∧ Same X w') := hide fun X hX => by
    have h := nrM_any b cap P.length P X (hide rfl) (by omega) (hide (hI.below hX hb))
    have e : (decide (1 ≤ P.length ∧ P.length ≤ 200) && P.all nrP) = true := by rw [decide_eq_true ⟨hg.1, hg.2.1⟩, hg.2.2]; rfl
    rw [e] at h
    exact h
   have HHU := fun (X : World) (hX : Below w.heap.size w X) => hullM_any b cap P X (by omega) hne (Nat.lt_of_lt_of_le hb hX.size) (fun p hp => nr_ptOk (hN p hp)) (hI.below hX hb)
   have hm1 : 1 ≤ (hullM (srtU P)).length := hull_some (srtU_ne hne)
   have hm400 : (hullM (srtU P)).length ≤ 400 := by
    have h1 := hullM_le (srtU P)
    have h2 := srtU_len P
    omega
   have hHP : ∀ q ∈ hullM (srtU P), q ∈ P := fun q h => hull_in h
   by_cases h1 : (hullM (srtU P)).length = 1
   ·obtain ⟨p, hp⟩ := List.length_eq_one_iff.1 h1
    rw [one_ring hne hp]
    have np := hN p (hHP p (by rw [hp]; simp))
    have np' := np
    obtain ⟨a1, a2, a3, a4⟩ := np'
    rw [hp] at HHU
    obtain ⟨cc, hcc⟩ : ∃ cc, cir (redM p.1 p.2 1) p = cc := ⟨_, rfl⟩
    have HC := fun W => circM_any p.1 p.2 1 p W (by omega) (by omega) (by omega) np
    rw [hcc] at HC
    rw [hcc]
    obtain ⟨X, Y, D, N⟩ := cc
    exact mrM_one b cap P.length 0 0 p.1 p.2 X Y D N w (by omega) HNR (hide HHU) (hide HC)
   ·have h2 : 2 ≤ (hullM (srtU P)).length := by omega
    have hHne : hullM (srtU P) ≠ [] := fun e => by rw [e] at hm1; simp at hm1
    have hs := rim_some hne h2
    obtain ⟨k, S, hIs, hM, hS⟩ := ring_md hne
    have e2 := pairs_eq hIs hM
    have e3 := triples_eq hIs hM
    have hrn := rim_num hIs hM
    have hmem : ∀ i ∈ numL P, i < P.length := fun i hi => (numL_mem.1 hi).1
    have nr : ∀ i ∈ numL P, Nr1 (ptAt P i) := fun i hi => hN.at (hmem i hi)
    have key := mrM_main b cap P.length (hullM (srtU P)).length P (hullM (srtU P)) (nl P (hullM (srtU P))) (fun i => fiO (hullM (srtU P)) (ptAt P i)) (qM2 P) (qM3 P) (fun i j l => triOk (ptAt P i) (ptAt P j) (ptAt P l)) (fun i j => thr [ptAt P i, ptAt P j]) (fun i j l => triC (ptAt P i) (ptAt P j) (ptAt P l)) w hg.2.1 (hide rfl) (hide rfl) h2 hm400 hb (hide hI) HNR (hide HHU)
     (hide fun i X hi hX => fstM_any b cap P.length P _ _ (fi P (ptAt P i)) X (hide rfl) (by omega) (Nat.lt_of_lt_of_le hb hX.size) (hide (hI.below hX hb)) (hide (fi_fst (ptAt_mem hi))))
     (hide fun i X hb hc hi hbX hIX => fstM_or hb hc _ (hullM (srtU P)) (ptAt P i) X rfl (by omega) hbX hIX)
     (hide fun i hi => fiO_lt hHne _) (hide rfl) (hide fun i => nl_len P _ i)
     (hide fun i hi => by
      rw [nl_succ, fiO_at hHne]
      by_cases hc : fi P (ptAt P i) = i ∧ ptAt P i ∈ hullM (srtU P)
      ·rw [if_pos hc, if_pos ⟨hc.1, decide_eq_true hc.2⟩]
      ·rw [if_neg hc, if_neg (fun q => hc ⟨q.1, of_decide_eq_true q.2⟩)])
     (hide hmem)
     (fun h0 => by
      have hnil : numL P = [] := List.eq_nil_of_length_eq_zero h0
      rw [hnil] at hrn
      have := (smc_told hne).1
      rw [hrn] at this
      exact this rfl)
     (hide fun i j X hi hj => pairM_any (ptAt P i) (ptAt P j) X (nr i hi) (nr j hj))
     (hide fun i j X hb hc hi hj hbX hIX => hasM_any hb hc _ (hullM (srtU P)) 0 0 0 0 (thr [ptAt P i, ptAt P j]) X rfl (by omega) hbX hIX (thr2_nr (nr i hi) (nr j hj)) (fun q hq => hN q (hHP q hq)))
     (hide fun i j l X hi hj hl => triM_any (ptAt P i) (ptAt P j) (ptAt P l) X (nr i hi) (nr j hj) (nr l hl))
     (hide fun i j l X hb hc hok hi hj hl hbX hIX => by
      have et : triC (ptAt P i) (ptAt P j) (ptAt P l) = tM (ptAt P i) (ptAt P j) (ptAt P l) := by unfold triC; rw [hok]; rfl
      have hside : side (ptAt P i) (ptAt P j) (ptAt P l) ≠ 0 := (of_decide_eq_true hok).1
      have h := hasM_any hb hc _ (hullM (srtU P)) 0 0 0 0 (triC (ptAt P i) (ptAt P j) (ptAt P l)) X rfl (by omega) hbX hIX (by rw [et]; exact tM_nr (nr i hi) (nr j hj) (nr l hl) hside) (fun q hq => hN q (hHP q hq))
      have e : qM3 P i j l = hasB (hullM (srtU P)) (triC (ptAt P i) (ptAt P j) (ptAt P l)) := by unfold qM3; rw [hok]; rfl
      rw [e]
      exact h)
     (hide fun i j l hok => by unfold qM3; rw [hok]; rfl)
     (hide fun hf => by
      rw [nl_all] at hf ⊢
      rw [← e2] at hf
      rw [← e3]
      exact hs.resolve_left (fun h => h hf))
    refine key.mono ?_
    rintro e w' ⟨v, rfl, hv, hB⟩
    rw [nl_all] at hv
    rw [main_ring hne h2 hv]
    exact ⟨rfl, hB⟩
  ·have hm : mcC P = 1 := by unfold mcC; rw [if_neg h4, if_neg hg]
   have hr : rgR P = .agg #[.int .i64 0, .int .i64 0, .int .i64 0, .int .i64 0, .int .i64 0, .int .i64 0, .int .i64 0, .int .i64 0] := by unfold rgR; rw [if_pos (by rw [hm]; decide)]
   rw [hm, hr]
   refine mrM_far b cap P.length w (by omega) (hide fun X hX => ?_)
   have h := nrM_any b cap P.length P X (hide rfl) (by omega) (hide (hI.below hX hb))
   have e : (decide (1 ≤ P.length ∧ P.length ≤ 200) && P.all nrP) = false := by
    cases hq : (decide (1 ≤ P.length ∧ P.length ≤ 200) && P.all nrP) with
    | false => rfl
    | true =>
     obtain ⟨q1, q2⟩ := Bool.and_eq_true_iff.1 hq
     exact absurd ⟨(of_decide_eq_true q1).1, (of_decide_eq_true q1).2, q2⟩ hg
   rw [e] at h
   exact h
theorem popR_suf : ∀ (s : List Pt) (p : Pt), (popR s p).Sublist s
 | [], p => List.Sublist.refl _
 | [a], p => List.Sublist.refl _
 | b :: a :: t, p => by
  unfold popR
  split
  ·exact (popR_suf (a :: t) p).trans (List.sublist_cons_self _ _)
  ·exact List.Sublist.refl _
theorem fold_sub (L : List Pt) : ∀ (s T : List Pt), s.Sublist T → (L.foldl (fun rs p => p :: popR rs p) s).Sublist (L.reverse ++ T) := by
 induction L with
 | nil => intro s T h; simpa using h
 | cons p L ih =>
  intro s T h
  have h1 : (p :: popR s p).Sublist (p :: T) := ((popR_suf s p).trans h).cons_cons p
  have h2 := ih (p :: popR s p) (p :: T) h1
  simpa using h2
theorem half_sub (L : List Pt) : (half L).Sublist L := by
 have h := fold_sub L [] [] (List.Sublist.refl _)
 rw [List.append_nil] at h
 have h2 := h.reverse
 rw [List.reverse_reverse] at h2
 exact h2
theorem sub_next {R : Pt → Pt → Prop} {L M : List Pt} (hs : L.Pairwise R) (h : M.Sublist L) {j : Nat} {a b : Pt} (ha : M[j]? = some a) (hb : M[j + 1]? = some b) : R a b := by
 have hp := hs.sublist h
 have h1 := List.pairwise_iff_getElem.1 hp j (j + 1) (List.getElem?_eq_some_iff.1 ha).1 (List.getElem?_eq_some_iff.1 hb).1 (by omega)
 rw [(List.getElem?_eq_some_iff.1 ha).2, (List.getElem?_eq_some_iff.1 hb).2] at h1
 exact h1
theorem hull_nx {P : List Pt} (h3 : 3 ≤ (hullM (srtU P)).length) {i : Nat} (hi : i < (hullM (srtU P)).length) : ptAt (hullM (srtU P)) i ≠ ptAt (hullM (srtU P)) ((i + 1) % (hullM (srtU P)).length) := by
 obtain ⟨hs, hm⟩ := srtU_facts P
 have hU : 3 ≤ (srtU P).length := by
  by_cases h : (srtU P).length < 3
  ·have : hullM (srtU P) = srtU P := by unfold hullM; rw [if_pos h]
   rw [this] at h3
   omega
  ·omega
 have hs' : (srtU P).Pairwise (fun a b => ltp a b = true) := hs
 intro e
 rcases hull_edge hU (ptAt_some hi) (ptAt_some (Nat.mod_lt _ (by omega))) with ⟨j, h1, h2⟩ | ⟨j, h1, h2⟩
 ·have := sub_next hs' (half_sub _) h1 h2
  rw [e, ltp_irrefl] at this
  cases this
 ·have hr : (srtU P).reverse.Pairwise (fun a b => ltp b a = true) := List.pairwise_reverse.2 hs'
  have := sub_next hr (half_sub _) h1 h2
  rw [e, ltp_irrefl] at this
  cases this
theorem sqd_pos {a b : Pt} (h : a ≠ b) : 0 < sqd a b := by
 have h1 := mul_self_ge (a.1 - b.1)
 have h2 := mul_self_ge (a.2 - b.2)
 unfold sqd
 rcases Int.lt_or_eq_of_le h1 with h3 | h3
 ·omega
 ·rcases Int.lt_or_eq_of_le h2 with h4 | h4
  ·omega
  ·exfalso
   apply h
   have e1 : a.1 - b.1 = 0 := by
    rcases Int.mul_eq_zero.1 h3.symm with h | h <;> exact h
   have e2 : a.2 - b.2 = 0 := by
    rcases Int.mul_eq_zero.1 h4.symm with h | h <;> exact h
   exact Prod.ext (by omega) (by omega)
theorem frM_max (f : Nat → Int) : ∀ n k, k < n → f k ≤ f (frM f n)
 | 0, k, h => by omega
 | n + 1, k, h => by
  rw [frM]
  by_cases hlt : f (frM f n) < f n
  ·rw [if_pos hlt]
   rcases Nat.lt_or_ge k n with h1 | h1
   ·have := frM_max f n k h1; omega
   ·have : k = n := by omega
    rw [this]; omega
  ·rw [if_neg hlt]
   rcases Nat.lt_or_ge k n with h1 | h1
   ·exact frM_max f n k h1
   ·have : k = n := by omega
    rw [this]; omega
def mxU (f : Nat → Int) : Nat → Int
 | 0 => 0
 | k + 1 => max (mxU f k) (f k)
theorem mxU_eq {f : Nat → Int} {n : Nat} (hf : ∀ k, k < n → 0 ≤ f k) : ∀ k, k ≤ n → 0 ≤ mxU f k ∧ (∀ j, j < k → f j ≤ mxU f k) ∧ (mxU f k = 0 ∨ ∃ j, j < k ∧ mxU f k = f j)
 | 0, _ => ⟨Int.le_refl _, fun j h => by omega, .inl rfl⟩
 | k + 1, h => by
  obtain ⟨h1, h2, h3⟩ := mxU_eq hf k (by omega)
  have h0 := hf k (by omega)
  rw [mxU]
  refine ⟨by omega, fun j hj => ?_, ?_⟩
  ·rcases Nat.lt_or_ge j k with h4 | h4
   ·have := h2 j h4; omega
   ·have : j = k := by omega
    rw [this]; omega
  ·by_cases h5 : mxU f k ≤ f k
   ·right
    exact ⟨k, by omega, by omega⟩
   ·have e : max (mxU f k) (f k) = mxU f k := by omega
    rw [e]
    rcases h3 with h3 | ⟨j, h6, h7⟩
    ·exact .inl h3
    ·exact .inr ⟨j, by omega, h7⟩
theorem mxU_fr {f : Nat → Int} {n : Nat} (hn : 1 ≤ n) (hf : ∀ k, k < n → 0 ≤ f k) : mxU f n = f (frM f n) := by
 obtain ⟨h1, h2, h3⟩ := mxU_eq hf n (Nat.le_refl _)
 have hl := frM_lt f hn n (Nat.le_refl _)
 have h4 := h2 _ hl
 rcases h3 with h3 | ⟨j, h5, h6⟩
 ·have := hf _ hl
  omega
 ·have := frM_max f n j h5
  omega
theorem bst_in {z : Nat → Zo} : ∀ k, ∃ j, j ≤ k ∧ bst z k = z j
 | 0 => ⟨0, Nat.le_refl _, rfl⟩
 | k + 1 => by
  rw [bst]
  split
  ·exact ⟨k + 1, Nat.le_refl _, rfl⟩
  ·obtain ⟨j, h1, h2⟩ := bst_in (z := z) k
   exact ⟨j, by omega, h2⟩
theorem frac_trans {n1 d1 n2 d2 n3 d3 : Int} (hd2 : 0 < d2) (hd1 : 0 ≤ d1) (hd3 : 0 ≤ d3) (h1 : n1 * d2 ≤ n2 * d1) (h2 : n2 * d3 ≤ n3 * d2) : n1 * d3 ≤ n3 * d1 := by
 have a1 : n1 * d2 * d3 ≤ n2 * d1 * d3 := Int.mul_le_mul_of_nonneg_right h1 hd3
 have a2 : n2 * d3 * d1 ≤ n3 * d2 * d1 := Int.mul_le_mul_of_nonneg_right h2 hd1
 have e1 : n1 * d2 * d3 = n1 * d3 * d2 := by rw [Int.mul_assoc, Int.mul_comm d2 d3, ← Int.mul_assoc]
 have e2 : n2 * d1 * d3 = n2 * d3 * d1 := by rw [Int.mul_assoc, Int.mul_comm d1 d3, ← Int.mul_assoc]
 have e3 : n3 * d2 * d1 = n3 * d1 * d2 := by rw [Int.mul_assoc, Int.mul_comm d2 d1, ← Int.mul_assoc]
 have h : n1 * d3 * d2 ≤ n3 * d1 * d2 := by omega
 exact Int.le_of_mul_le_mul_right h hd2
theorem bst_min {z : Nat → Zo} : ∀ k, (∀ i, i ≤ k → 0 < (z i).D) → ∀ i, i ≤ k → (bst z k).N * (z i).D ≤ (z i).N * (bst z k).D
 | 0, hd, i, hi => by
  have : i = 0 := by omega
  rw [this]
  exact Int.le_refl _
 | k + 1, hd, i, hi => by
  have ih := bst_min (z := z) k (fun i h => hd i (by omega))
  obtain ⟨j, hj, ej⟩ := bst_in (z := z) k
  have dj := hd j (by omega)
  have dk := hd (k + 1) (Nat.le_refl _)
  have di := hd i hi
  rw [← ej] at dj
  rw [bst]
  split
  ·next h =>
   rcases Nat.lt_or_ge i (k + 1) with h1 | h1
   ·have h2 := ih i (by omega)
    exact frac_trans (n1 := (z (k + 1)).N) (d1 := (z (k + 1)).D) (n2 := (bst z k).N) (d2 := (bst z k).D) dj (by omega) (by omega) (by omega) h2
   ·have : i = k + 1 := by omega
    rw [this]
    exact Int.le_refl _
  ·next h =>
   rcases Nat.lt_or_ge i (k + 1) with h1 | h1
   ·exact ih i (by omega)
   ·have e : i = k + 1 := by omega
    rw [e]
    omega
structure ZFact (P : List Pt) (z : Zo) (ia ib : Nat) : Prop where
 a : z.A = (ia : Int)
 b : z.B = (ib : Int)
 la : ia < P.length
 lb : ib < P.length
 s0 : ∀ i, i < P.length → 0 ≤ side (ptAt P ia) (ptAt P ib) (ptAt P i)
 s1 : ∀ i, i < P.length → side (ptAt P ia) (ptAt P ib) (ptAt P i) * side (ptAt P ia) (ptAt P ib) (ptAt P i) ≤ z.N
 ok : ZoOk z
 w : 3 ≤ (hullM (srtU P)).length → ∀ i, i < (hullM (srtU P)).length → z.N * sqd (ptAt (hullM (srtU P)) i) (ptAt (hullM (srtU P)) ((i + 1) % (hullM (srtU P)).length)) ≤ mxU (fun k => side (ptAt (hullM (srtU P)) i) (ptAt (hullM (srtU P)) ((i + 1) % (hullM (srtU P)).length)) (ptAt P k)) P.length * mxU (fun k => side (ptAt (hullM (srtU P)) i) (ptAt (hullM (srtU P)) ((i + 1) % (hullM (srtU P)).length)) (ptAt P k)) P.length * z.D
theorem side_same (a b : Pt) : side a b a = 0 ∧ side a b b = 0 := by
 unfold side
 constructor <;> grind
theorem sq_mono {x y : Int} (h0 : 0 ≤ x) (h : x ≤ y) : x * x ≤ y * y := Int.mul_le_mul h h h0 (by omega)
theorem flat_side {P : List Pt} (hne : P ≠ []) (h3 : (hullM (srtU P)).length < 3) : ∀ q ∈ P, side (ptAt (hullM (srtU P)) 0) (ptAt (hullM (srtU P)) ((hullM (srtU P)).length - 1)) q = 0 := by
 obtain ⟨hs, hm⟩ := srtU_facts P
 intro q hq
 have hqU := (hm q).2 hq
 by_cases hU : (srtU P).length < 3
 ·have e : hullM (srtU P) = srtU P := by unfold hullM; rw [if_pos hU]
  rw [e]
  match hc : srtU P, hU with
  | [], _ => rw [hc] at hqU; cases hqU
  | [a], _ =>
   rw [hc] at hqU
   rw [List.mem_singleton.1 hqU]
   exact (side_same a a).1
  | [a, b], _ =>
   rw [hc] at hqU
   rcases List.mem_cons.1 hqU with h | h
   ·rw [h]; exact (side_same a b).1
   ·rw [List.mem_singleton.1 h]; exact (side_same a b).2
  | a :: b :: c :: T, hU => simp at hU; omega
 ·have hU3 : 3 ≤ (srtU P).length := by omega
  have hm1 : 1 ≤ (hullM (srtU P)).length := hull_some (srtU_ne hne)
  by_cases h1 : (hullM (srtU P)).length = 1
  ·obtain ⟨p, hp⟩ := List.length_eq_one_iff.1 h1
   have := one_all hne hp q hq
   rw [hp, this]
   exact (side_same p p).1
  ·have h2 : (hullM (srtU P)).length = 2 := by omega
   have l0 := ptAt_some (L := hullM (srtU P)) (i := 0) (by omega)
   have l1 := ptAt_some (L := hullM (srtU P)) (i := 1) (by omega)
   have a1 := hull_left hs hU3 (i := 0) l0 (by rw [h2]; exact l1) q hqU
   have a2 := hull_left hs hU3 (i := 1) l1 (by rw [h2]; exact l0) q hqU
   rw [h2]
   show side (ptAt (hullM (srtU P)) 0) (ptAt (hullM (srtU P)) 1) q = 0
   rw [side_swap] at a2
   omega
theorem zone_fact {P : List Pt} (hg : 1 ≤ P.length ∧ P.length ≤ 200 ∧ P.all nrP = true) : ∃ ia ib, ZFact P (zoR P) ia ib := by
 have hne : P ≠ [] := fun e => by rw [e] at hg; simp at hg
 have hm : mcC P = 0 := by unfold mcC; rw [if_neg (by omega), if_pos hg]
 have hN := nr_near hg.2.2
 have hm1 : 1 ≤ (hullM (srtU P)).length := hull_some (srtU_ne hne)
 have hin : ∀ i, i < (hullM (srtU P)).length → ptAt (hullM (srtU P)) i ∈ P := fun i hi => hull_in (ptAt_mem hi)
 by_cases h3 : (hullM (srtU P)).length < 3
 ·have ez : zoR P = ⟨fi P (ptAt (hullM (srtU P)) 0), fi P (ptAt (hullM (srtU P)) ((hullM (srtU P)).length - 1)), fi P (ptAt (hullM (srtU P)) 0), 0, max 1 (sqd (ptAt (hullM (srtU P)) 0) (ptAt (hullM (srtU P)) ((hullM (srtU P)).length - 1)))⟩ := by
   unfold zoR
   rw [if_neg (fun h => h hm), if_pos h3]
  have ha := hin 0 (by omega)
  have hb := hin ((hullM (srtU P)).length - 1) (by omega)
  have fs := flat_side hne h3
  have hd := sqd_bd (hN _ ha) (hN _ hb)
  refine ⟨fi P (ptAt (hullM (srtU P)) 0), fi P (ptAt (hullM (srtU P)) ((hullM (srtU P)).length - 1)), ?_⟩
  rw [ez]
  refine ⟨rfl, rfl, (fi_idx ha).1, (fi_idx hb).1, fun i hi => ?_, fun i hi => ?_, ⟨⟨Int.le_refl _, by simp only; omega⟩, ⟨by simp only; omega, by simp only; omega⟩⟩, fun h => by omega⟩
  ·rw [(fi_idx ha).2.1, (fi_idx hb).2.1, fs _ (ptAt_mem hi)]
   exact Int.le_refl _
  ·rw [(fi_idx ha).2.1, (fi_idx hb).2.1, fs _ (ptAt_mem hi)]
   exact Int.le_refl _
 ·have h3' : 3 ≤ (hullM (srtU P)).length := by omega
  have ez : zoR P = bst (zhl P) ((hullM (srtU P)).length - 1) := by
   unfold zoR
   rw [if_neg (fun h => h hm), if_neg h3]
  obtain ⟨j, hj, ej⟩ := bst_in (z := zhl P) ((hullM (srtU P)).length - 1)
  have hjl : j < (hullM (srtU P)).length := by omega
  have hnx : (j + 1) % (hullM (srtU P)).length < (hullM (srtU P)).length := Nat.mod_lt _ (by omega)
  have ha := hin j hjl
  have hb := hin _ hnx
  have hs := hull_sides h3' hjl
  have hpos : ∀ i, i ≤ (hullM (srtU P)).length - 1 → 0 < (zhl P i).D := fun i hi => sqd_pos (hull_nx h3' (by omega))
  have hok : ZoOk (zoR P) := by
   rw [ez, ej]
   exact zn_ok hN hg.1 ha hb
  refine ⟨fi P (ptAt (hullM (srtU P)) j), fi P (ptAt (hullM (srtU P)) ((j + 1) % (hullM (srtU P)).length)), ?_, ?_, (fi_idx ha).1, (fi_idx hb).1, fun i hi => ?_, fun i hi => ?_, hok, fun _ i hi => ?_⟩
  ·rw [ez, ej]; rfl
  ·rw [ez, ej]; rfl
  ·rw [(fi_idx ha).2.1, (fi_idx hb).2.1]
   exact hs _ (ptAt_mem hi)
  ·rw [(fi_idx ha).2.1, (fi_idx hb).2.1, ez, ej]
   have hle := frM_max (fun k => side (ptAt (hullM (srtU P)) j) (ptAt (hullM (srtU P)) ((j + 1) % (hullM (srtU P)).length)) (ptAt P k)) P.length i hi
   exact sq_mono (hs _ (ptAt_mem hi)) hle
  ·have hsi := hull_sides h3' hi
   have hb := bst_min (z := zhl P) ((hullM (srtU P)).length - 1) hpos i (by omega)
   rw [← ez] at hb
   have em := mxU_fr (f := fun k => side (ptAt (hullM (srtU P)) i) (ptAt (hullM (srtU P)) ((i + 1) % (hullM (srtU P)).length)) (ptAt P k)) hg.1 (fun k hk => hsi _ (ptAt_mem hk))
   rw [em]
   exact hb
theorem tol_rim {P : List Pt} {c : Ic} : ∀ i ∈ tolL P c, i ∈ rimL P c := by
 intro i hi
 unfold tolL at hi
 split at hi
 ·exact hi
 ·split at hi
  ·next a b h =>
   obtain ⟨_, h1, h2⟩ := fp_true h
   rcases List.mem_cons.1 hi with h3 | h3
   ·rw [h3]; exact h1
   ·rw [List.mem_singleton.1 h3]; exact h2
  ·split at hi
   ·next a b d h =>
    obtain ⟨_, h1, h2, h3⟩ := ft_true h
    rcases List.mem_cons.1 hi with h4 | h4
    ·rw [h4]; exact h1
    ·rcases List.mem_cons.1 h4 with h5 | h5
     ·rw [h5]; exact h2
     ·rw [List.mem_singleton.1 h5]; exact h3
   ·cases hi
theorem ring_has {P : List Pt} (hne : P ≠ []) : ∀ q ∈ P, apt (smc 3 P []) q ≤ (smc 3 P []).N := by
 obtain ⟨k, S, hI, hM, hS⟩ := ring_md hne
 exact fun q hq => (hI.inn q).1 (hM.fea.has q hq)
theorem ring_keep {P : List Pt} (hne : P ≠ []) {p : Pt} (h : apt (smc 3 P []) p ≤ (smc 3 P []).N) : smc 3 (P ++ [p]) [] = smc 3 P [] := by
 obtain ⟨k, S, hI, hM, hS⟩ := ring_md hne
 obtain ⟨k2, S2, hI2, hM2, hS2⟩ := ring_md (P := P ++ [p]) (by simp)
 have hk := hM.keep ((hI.inn p).2 h)
 have e := hk.uniq hM2
 rw [e] at hI2
 exact hI2.uniq hI
end Go.Proofs.Ytdcecfgmfmpeeaa
