/-
  One tie on both sides, and one rule.
-/
import Derived.Test.YtchdmigeopmacaaFreeQ
namespace Go.Proofs.Ytchdmigeopmacaa
open Go.ChangeShapes Go.WideShapes Go.ChangeAt Go.RowKit
set_option linter.unusedVariables false
set_option linter.unusedSimpArgs false

def newG (g : List Int) (cl : Nat → Nat) (a b : Nat) : List Int := if cl a = cl b then g else g.set (cl a) (cl b : Int)
def newC (cl : Nat → Nat) (a b : Nat) : Nat → Nat := if cl a = cl b then cl else tieC cl a b
def newD (cl d : Nat → Nat) (a b : Nat) : Nat → Nat := if cl a = cl b then d else tieD cl d a b
structure St (N : Nat) (gx gy : List Int) (cx dx cy dy : Nat → Nat) (lab : List Int) (fr : Int) : Prop where
  fx : Fo (N + 1) gx cx dx
  fy : Fo (N + 1) gy cy dy
  cor : Cor N cx cy lab
  cnt : (rts (N + 1) gx : Int) + (rts (N + 1) gy : Int) = fr + 2
theorem keep_xy {N k k' : Nat} {lab : List Int} {a b : Nat} (hk : k ≤ 2) (hk' : k' ≤ 2) (hl : lab.length = 2 * N + 1) (hx : ∀ i j, i ≤ N → j ≤ N → gt lab (plc N k i) = gt lab (plc N k' j) → gt lab (plc N k i) = gt lab 0)
    (ha : a ≤ N) (hb : b ≤ N) (hne : ¬ gt lab (plc N k a) = gt lab (plc N k b)) :
    ∀ i j, i ≤ N → j ≤ N → gt (relab lab (gt lab (plc N k b)) (gt lab (plc N k a))) (plc N k i) = gt (relab lab (gt lab (plc N k b)) (gt lab (plc N k a))) (plc N k' j) → gt (relab lab (gt lab (plc N k b)) (gt lab (plc N k a))) (plc N k i) = gt (relab lab (gt lab (plc N k b)) (gt lab (plc N k a))) 0 := by
  intro i j hi hj
  rw [gt_relab (by rw [hl]; exact plc_lt hk hi), gt_relab (by rw [hl]; exact plc_lt hk' hj), gt_relab (by rw [hl]; omega)]
  by_cases h1 : gt lab (plc N k i) = gt lab (plc N k b)
  · rw [if_pos h1]
    by_cases h2 : gt lab (plc N k' j) = gt lab (plc N k b)
    · intro _
      have h3 := hx i j hi hj (h1.trans h2.symm)
      rw [if_pos (h3.symm.trans h1)]
    · rw [if_neg h2]
      intro e
      have h3 := hx a j ha hj e
      rw [if_neg (fun e2 => hne (h3.trans e2)), h3]
  · rw [if_neg h1]
    by_cases h2 : gt lab (plc N k' j) = gt lab (plc N k b)
    · rw [if_pos h2]
      intro e
      have h3 := hx b j hb hj h2.symm
      rw [if_pos h3.symm, e]
    · rw [if_neg h2]
      intro e
      have h3 := hx i j hi hj e
      rw [if_neg (fun e2 => h1 (h3.trans e2)), h3]
theorem St.tieX {N : Nat} {gx gy : List Int} {cx dx cy dy : Nat → Nat} {lab : List Int} {fr : Int} (h : St N gx gy cx dx cy dy lab fr) {a b : Nat} (ha : a ≤ N) (hb : b ≤ N) :
    St N (newG gx cx a b) gy (newC cx a b) (newD cx dx a b) cy dy (tieL (lab, fr) (plc N 1 a) (plc N 1 b)).1.1 (tieL (lab, fr) (plc N 1 a) (plc N 1 b)).1.2 ∧ (tieL (lab, fr) (plc N 1 a) (plc N 1 b)).2 = !decide (cx a = cx b) := by
  have hc := h.cor.x a b ha hb
  unfold newG newC newD tieL
  by_cases e : cx a = cx b
  · rw [if_pos e, if_pos e, if_pos e, if_pos (show gt lab (plc N 1 b) = gt lab (plc N 1 a) from (hc.1 e).symm)]
    exact ⟨h, by simp [e]⟩
  · have ne : ¬ gt lab (plc N 1 a) = gt lab (plc N 1 b) := fun q => e (hc.2 q)
    rw [if_neg e, if_neg e, if_neg e, if_neg (show ¬ gt lab (plc N 1 b) = gt lab (plc N 1 a) from fun q => ne q.symm)]
    refine ⟨⟨h.fx.tie (by omega) (by omega) e, h.fy, ⟨by rw [relab_len]; exact h.cor.len, ?_, ?_, ?_⟩, ?_⟩, by simp [e]⟩
    · exact ax_tie (by omega) h.cor.len h.cor.x ha hb e _ _ (.inr ⟨rfl, rfl⟩)
    · exact ax_stay (by omega) (by omega) h.cor.len h.cor.y h.cor.swap ha hb ne _ _ (.inr ⟨rfl, rfl⟩)
    · exact keep_xy (by omega) (by omega) h.cor.len h.cor.xy ha hb ne
    · have h1 := rts_tie h.fx (a := a) (b := b) (by omega) (by omega) e
      have h2 := h.cnt
      show ((rts (N + 1) (gx.set (cx a) (cx b : Int)) : Nat) : Int) + _ = fr - 1 + 2
      omega
theorem St.tieY {N : Nat} {gx gy : List Int} {cx dx cy dy : Nat → Nat} {lab : List Int} {fr : Int} (h : St N gx gy cx dx cy dy lab fr) {a b : Nat} (ha : a ≤ N) (hb : b ≤ N) :
    St N gx (newG gy cy a b) cx dx (newC cy a b) (newD cy dy a b) (tieL (lab, fr) (plc N 2 a) (plc N 2 b)).1.1 (tieL (lab, fr) (plc N 2 a) (plc N 2 b)).1.2 ∧ (tieL (lab, fr) (plc N 2 a) (plc N 2 b)).2 = !decide (cy a = cy b) := by
  have hc := h.cor.y a b ha hb
  unfold newG newC newD tieL
  by_cases e : cy a = cy b
  · rw [if_pos e, if_pos e, if_pos e, if_pos (show gt lab (plc N 2 b) = gt lab (plc N 2 a) from (hc.1 e).symm)]
    exact ⟨h, by simp [e]⟩
  · have ne : ¬ gt lab (plc N 2 a) = gt lab (plc N 2 b) := fun q => e (hc.2 q)
    rw [if_neg e, if_neg e, if_neg e, if_neg (show ¬ gt lab (plc N 2 b) = gt lab (plc N 2 a) from fun q => ne q.symm)]
    refine ⟨⟨h.fx, h.fy.tie (by omega) (by omega) e, ⟨by rw [relab_len]; exact h.cor.len, ?_, ?_, ?_⟩, ?_⟩, by simp [e]⟩
    · exact ax_stay (by omega) (by omega) h.cor.len h.cor.x h.cor.xy ha hb ne _ _ (.inr ⟨rfl, rfl⟩)
    · exact ax_tie (by omega) h.cor.len h.cor.y ha hb e _ _ (.inr ⟨rfl, rfl⟩)
    · intro i j hi hj e2
      have := keep_xy (k := 2) (k' := 1) (by omega) (by omega) h.cor.len h.cor.swap ha hb ne j i hj hi e2.symm
      rw [e2]
      exact this
    · have h1 := rts_tie h.fy (a := a) (b := b) (by omega) (by omega) e
      have h2 := h.cnt
      show _ + ((rts (N + 1) (gy.set (cy a) (cy b : Int)) : Nat) : Int) = fr - 1 + 2
      omega
theorem gt_nats {m i : Nat} (h : i < m) : gt (nats (List.range m)) i = (i : Int) := by
  have h1 : (nats (List.range m))[i]? = some (i : Int) := nats_at (List.getElem?_range h)
  unfold gt
  rw [List.getD_eq_getElem?_getD, h1]
  rfl
theorem fo_start (m : Nat) : Fo m (nats (List.range m)) id (fun _ => 0) :=
  ⟨by rw [nats_len, List.length_range], fun i hi => ⟨hi, gt_nats hi⟩, fun _ _ _ => rfl, fun i hi h => absurd (gt_nats hi) h⟩
theorem rts_start (m : Nat) : rts m (nats (List.range m)) = m := by
  unfold rts
  rw [List.countP_eq_length.2]
  · simp
  · intro i hi
    exact decide_eq_true (gt_nats (by simpa using hi))
theorem st_start (N : Nat) : St N (nats (List.range (N + 1))) (nats (List.range (N + 1))) id (fun _ => 0) id (fun _ => 0) (nats (List.range (2 * N + 1))) (2 * (N : Int)) := by
  refine ⟨fo_start _, fo_start _, ⟨by rw [nats_len, List.length_range], ?_, ?_, ?_⟩, ?_⟩
  · intro i j hi hj
    rw [gt_nats (plc_lt (by omega) hi), gt_nats (plc_lt (by omega) hj)]
    unfold plc
    simp only [id]
    split <;> split <;> omega
  · intro i j hi hj
    rw [gt_nats (plc_lt (by omega) hi), gt_nats (plc_lt (by omega) hj)]
    unfold plc
    simp only [id]
    split <;> split <;> omega
  · intro i j hi hj
    rw [gt_nats (plc_lt (by omega) hi), gt_nats (plc_lt (by omega) hj), gt_nats (by omega)]
    unfold plc
    split <;> split <;> omega
  · rw [rts_start]; omega

/-- the model's root of a node -/
theorem group_any (m q cap i : Nat) (G : List Int) (cl d : Nat → Nat) (w : World) (hm : m ≤ 1000) (hi : i < m) (HFo : Hid (Fo m G cl d)) (HI : Hid (IntsAt w q 0 G)) :
    Calls Try.prog 36 #[.slice (some ⟨q, 0, none⟩) m cap, .int .i64 (i : Int)] w fun e w' => e = .returned (.int .i64 (cl i : Int)) ∧ Same w w' := by
  go_enter Try.func36, Try.ntmps36
  go_wp2_with fail
  go_loopw [1] (fun s W => ∃ j : Nat, s = .int .i64 (j : Int) ∧ j < m ∧ cl j = cl i ∧ Same w W) (fun s _ => d (intOf s).toNat)
  case atStart => exact ⟨i, rfl, hi, rfl, Same.refl _⟩
  case round =>
    obtain ⟨j, rfl, hj, hcl, hw⟩ := hrel
    have HCL := hide hcl
    have HW := hide hw
    have hfo := unhide HFo
    have j1 : (j : Int) < (m : Int) := by omega
    have j0 : (0 : Int) ≤ (j : Int) := Int.natCast_nonneg _
    have m1 : wr.cell? ⟨q, j, none⟩ = some (.int .i64 (gt G j)) := (hw.cell _).trans (by have := (unhide HI) j _ (gt_some (by rw [hfo.len]; exact hj)); rwa [Nat.zero_add] at this)
    by_cases he : gt G j = (j : Int)
    · have hs := hfo.self j hj he
      have e1 : (gt G j != (j : Int)) = false := by simp [he]
      have HE : Hid ((cl i : Nat) = j) := hide (by rw [← hcl]; exact hs)
      generalize gt G j = X at *
      clear hcl hw hfo he hs
      go_wp2_with fail
      go_ret
      exact ⟨ret_int (by have := unhide HE; omega), by repeat (first | exact unhide HW | refine Same.drew ?_)⟩
    · obtain ⟨j2, h1, h2, h3, h4⟩ := hfo.up j hj he
      have e1 : (gt G j != (j : Int)) = true := by simp [he]
      rw [h1] at m1 e1
      have H4 := hide (And.intro h3 h4)
      clear hcl hw hfo he h1 h3 h4
      go_wp2_with fail
      go_roundw
      case rel => exact ⟨j2, rfl, h2, (unhide H4).2.trans (unhide HCL), by repeat (first | exact unhide HW | refine Same.drew ?_)⟩
      case measure => simp only [intOf]; exact (unhide H4).1
theorem tieM_any (B m q cap a b : Nat) (G : List Int) (cl d : Nat → Nat) (w : World) (hm : m ≤ 1000) (ha : a < m) (hb : b < m) (HFo : Hid (Fo m G cl d)) (HR : Hid (Row w B 3 1 (.slice (some ⟨q, 0, none⟩) m cap) m G)) :
    Calls Try.prog 35 #[.slice (some ⟨q, 0, none⟩) m cap, .int .i64 (a : Int), .int .i64 (b : Int)] w fun e w' => e = .returned (.bool (!decide (cl a = cl b))) ∧ Row w' B 3 1 (.slice (some ⟨q, 0, none⟩) m cap) m (newG G cl a b) ∧ But q w w' := by
  have HI : ∀ W, Same w W → IntsAt W q 0 G := fun W hW j x hj => (hW.cell _).trans (by rw [Nat.zero_add]; exact (unhide HR).cellAt hj)
  have HGA := hide (fun W (hW : Same w W) => group_any m q cap a G cl d W hm ha HFo (hide (HI W hW)))
  have HGB := hide (fun W (hW : Same w W) => group_any m q cap b G cl d W hm hb HFo (hide (HI W hW)))
  have hA := (unhide HFo).root a ha
  have hB := (unhide HFo).root b hb
  have a1 : (cl a : Int) < (m : Int) := by omega
  have a0 : (0 : Int) ≤ (cl a : Int) := Int.natCast_nonneg _
  clear HI
  by_cases e : cl a = cl b
  · have e1 : (((cl a : Nat) : Int) == ((cl b : Nat) : Int)) = true := by simp [e]
    have HN : Hid (newG G cl a b = G) := hide (if_pos e)
    rw [unhide HN, decide_eq_true e]
    generalize cl a = A at *
    generalize cl b = B' at *
    clear e
    go_enter Try.func35, Try.ntmps35
    go_wp2_with fail
    refine (unhide HGA _ (Same.refl _)).mono ?_
    rintro e W1 ⟨rfl, hs1⟩
    have HS1 := hide hs1
    clear hs1
    go_wp2_with fail
    refine (unhide HGB _ (unhide HS1)).mono ?_
    rintro e W2 ⟨rfl, hs2⟩
    have HS2 : Hid (Same w W2) := hide ((unhide HS1).trans hs2)
    clear hs2
    go_wp2_with fail
    go_ret
    exact ⟨rfl, (unhide HR).kept (B' := 0) (fun g _ => by rw [(unhide HS2).heap]), (But.refl _ _).same (unhide HS2)⟩
  · have e1 : (((cl a : Nat) : Int) == ((cl b : Nat) : Int)) = false := by simp; omega
    have HN : Hid (newG G cl a b = G.set (cl a) (cl b : Int)) := hide (if_neg e)
    rw [unhide HN, decide_eq_false e]
    have m1 : w.cell? ⟨q, cl a, none⟩ = some (.int .i64 (gt G (cl a))) := (unhide HR).cellAt (gt_some (by rw [(unhide HFo).len]; exact hA.1))
    have hAm := hA.1
    generalize gt G (cl a) = X at *
    generalize cl a = A at *
    generalize cl b = B' at *
    clear e hA hB
    go_enter Try.func35, Try.ntmps35
    go_wp2_with fail
    refine (unhide HGA _ (Same.refl _)).mono ?_
    rintro e W1 ⟨rfl, hs1⟩
    have HS1 := hide hs1
    clear hs1
    go_wp2_with fail
    refine (unhide HGB _ (unhide HS1)).mono ?_
    rintro e W2 ⟨rfl, hs2⟩
    have HS2 : Hid (Same w W2) := hide ((unhide HS1).trans hs2)
    have m2 : W2.cell? ⟨q, A, none⟩ = some (.int .i64 X) := ((unhide HS2).cell _).trans m1
    have HR2 : Hid (Row W2 B 3 1 (.slice (some ⟨q, 0, none⟩) m cap) m G) := hide ((unhide HR).kept (B' := 0) (fun g _ => by rw [(unhide HS2).heap]))
    have fz := (unhide HR2).frz
    clear hs2
    go_wp2_with fail
    go_ret
    exact ⟨rfl, (unhide HR2).set A (by omega) (B' : Int), ((But.refl _ _).same (unhide HS2)).setCell _ _⟩
end Go.Proofs.Ytchdmigeopmacaa
