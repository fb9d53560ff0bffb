/-
  The model's search through all orders.
-/
import Derived.Test.YtoidhlackoigkaaOd28
import Derived.Test.YtoidhlackoigkaaNbWy
namespace Go.Proofs.Ytoidhlackoigkaa
open Go.ChangeShapes Go.WideShapes Go.ChangeAt Go.RowKit
set_option linter.unusedVariables false
set_option linter.unusedSimpArgs false

theorem ints_app (od : List Nat) (i : Nat) : ints (od ++ [i]) = ints od ++ [(i : Int)] := by simp [ints]
/-- one more in the order -/
theorem StS.push {w0 W W2 : World} {Wd : Int} {P : List Pl} {up : Option Addr} {n m cp sB tB : Nat} {od : List Nat} {T : List Bool} {b : Option (List Ld)} {vo vo' ve : Value} {hi : Int} {i : Nat} (h : StS w0 W Wd P up n m cp sB tB od T b vo ve hi) (hown : W2.ownsRow w0.heap.size 3 1 vo' (m + 1) ((ints od).map (Value.int .i64) ++ [(i : Int)].map (Value.int .i64))) (hgr : W.grownBy W2 vo.ownBlock) (hnb : NewBlk W vo vo') :
    StS w0 (W2.setCell ⟨sB, 2, none⟩ vo') Wd P up n (m + 1) cp sB tB (od ++ [i]) T b vo' ve hi := by
  have hs := h.s.grown hgr h.os
  have ht := h.tur.grown hgr h.ot
  have hr : Row W2 w0.heap.size 3 1 vo' (m + 1) (ints (od ++ [i])) := by unfold Row; rw [ints_app, List.map_append]; exact hown
  have os' : vo'.ownBlock ≠ some sB := fun e => by rcases hnb sB e with h1 | h1; (exact h.os h1); (have := h.s.lt; omega)
  have ot' : vo'.ownBlock ≠ some tB := fun e => by rcases hnb tB e with h1 | h1; (exact h.ot h1); (have := h.tur.lt; omega)
  have hb2 : BeS W2 w0.heap.size b ve hi := h.be.kept (fun g hg => hgr.block g (h.be.lt g hg).2 (fun e => h.bo g e.symm hg))
  refine ⟨(h.bel.grown (B := w0.heap.size) hgr h.bel.size (fun j e => (h.ord.lt _ e).1)).setCell h.sge _, hs.set 2 _, h.sge, h.pn, by rw [List.length_append, h.om]; rfl, ?_, ht.ne (Ne.symm h.st), h.tl, h.tge, h.st, os', ot', ?_, h.bs, h.bt, ?_⟩
  · exact hr.kept' (fun g hg => Below.heap_setCell _ _ _ _ (fun e => os' (by rw [hg, e])))
  · exact hb2.kept (fun g hg => Below.heap_setCell _ _ _ _ (fun e => h.bs (by rw [hg, e])))
  · intro q hq e
    rcases hnb q hq with h1 | h1
    · exact h.bo q h1 e
    · have := (h.be.lt q e).2; omega
/-- and one less -/
theorem StS.pop {w0 W : World} {Wd : Int} {P : List Pl} {up : Option Addr} {n m cp sB tB gO cap : Nat} {od : List Nat} {T : List Bool} {b : Option (List Ld)} {ve : Value} {hi : Int} {i : Nat} (h : StS w0 W Wd P up n (m + 1) cp sB tB (od ++ [i]) T b (.slice (some ⟨gO, 0, none⟩) (m + 1) cap) ve hi) :
    StS w0 (W.setCell ⟨sB, 2, none⟩ (.slice (some ⟨gO, 0, none⟩) m cap)) Wd P up n m cp sB tB od T b (.slice (some ⟨gO, 0, none⟩) m cap) ve hi := by
  have hol : od.length = m := by have := h.om; simp at this; exact this
  have hr := h.ord.pop (m := m) (by omega)
  have e : (ints (od ++ [i])).take (m * 1) = ints od := by rw [ints_app, Nat.mul_one, List.take_left']; rw [ints_len]; exact hol
  rw [e] at hr
  have os' : (Value.slice (some ⟨gO, 0, none⟩) m cap).ownBlock ≠ some sB := h.os
  refine ⟨h.bel.setCell h.sge _, h.s.set 2 _, h.sge, h.pn, hol, ?_, h.tur.ne (Ne.symm h.st), h.tl, h.tge, h.st, os', h.ot, ?_, h.bs, h.bt, h.bo⟩
  · exact hr.kept' (fun g hg => Below.heap_setCell _ _ _ _ (fun e => os' (by rw [hg, e])))
  · exact h.be.kept (fun g hg => Below.heap_setCell _ _ _ _ (fun e => h.bs (by rw [hg, e])))
theorem cont_take {od : List Nat} {k j i : Nat} (h : od[k]? = some j) : (od.take (k + 1)).contains i = ((od.take k).contains i || ((j : Int) == (i : Int))) := by
  rw [List.take_add_one, h]
  by_cases e : j = i
  · subst e; simp
  · have : ¬ i = j := fun x => e x.symm
    have e2 : ((j : Int) == (i : Int)) = false := by simp; omega
    rw [e2]
    simp [this]
def OdQ (w0 W' : World) (Wd : Int) (P : List Pl) (up : Option Addr) (n m cp sB tB : Nat) (od : List Nat) (b' : Option (List Ld)) : Prop := ∃ T' vo' ve' hi', StS w0 W' Wd P up n m cp sB tB od T' b' vo' ve' hi'
set_option maxHeartbeats 16000000 in
set_option maxRecDepth 100000 in
theorem orders_any (w0 : World) (Wd : Int) (P : List Pl) (up : Option Addr) (pp ppo cp sB tB : Nat) (n : Nat) (hn : n ≤ 900) (hup : Pls w0 up pp ppo P) (hW : 1 ≤ Wd ∧ Wd ≤ 1000) (hPn : P.length = n) (hpl : ∀ p ∈ P, (1 ≤ p.w ∧ p.w ≤ 1000) ∧ 1 ≤ p.h ∧ p.h ≤ 1000) :
    ∀ (mm : Nat) (m : Nat) (od : List Nat) (b : Option (List Ld)) (W : World), m + mm = n → (∀ k ∈ od, k < n) → OdQ w0 W Wd P up n m cp sB tB od b →
      Calls Try.prog 28 #[.pointer (some ⟨sB, 0, none⟩)] W fun e W' => e = .returned (.tuple #[]) ∧ OdQ w0 W' Wd P up n m cp sB tB od (bst Wd b (ol Wd P mm od)) := by
  intro mm
  induction mm with
  | zero =>
    intro m od b W hmn hok ⟨T, vo, ve, hi, hst⟩
    obtain rfl : m = n := by omega
    obtain ⟨uo, co, rfl, _⟩ := hst.ord.form
    have HST := hide hst
    have HWY := hide (fun X (hX : Below W.heap.size W X) => ways_any w0 Wd P up pp ppo cp sB tB od _ m hn hup hW hPn hpl hst.om hok od 0 [] T b ve hi X (by simp) (by rw [Nat.zero_add]; exact hst.om) rfl (fun i q hq => by cases hq) (hst.on hX))
    have c1 := hst.s.cell (m := 1) rfl
    have c2 := hst.s.cell (m := 2) rfl
    have kk : ((m : Int) == (m : Int)) = true := by simp
    have k00 : (0 : Int) ≤ (m : Int) := Int.natCast_nonneg _
    have HL : Hid (ol Wd P 0 od = lv Wd P od []) := hide rfl
    clear hst
    go_enter Try.func28, Try.ntmps28
    go_wp2_with fail
    refine Go.Code.wp_mono (Only.to (fun _ _ h => h)) (od0 (hide c1) (hide c2) ?_)
    intro W1 hb1
    have HC := hide (unhide HWY W1 hb1)
    clear hb1 c1 c2
    go_wp2_with fail
    refine (unhide HC).mono ?_
    rintro e W2 ⟨rfl, ⟨T', ve', hi', q1, _⟩, _⟩
    have HQ := hide q1
    clear q1
    go_wp2_with fail
    refine bodyPost_ret (v := .tuple #[]) (by simp [results, Try.results28, go_sem]) rfl ⟨rfl, ?_⟩
    rw [unhide HL]
    exact ⟨T', _, ve', hi', unhide HQ⟩
  | succ mm ih =>
    intro m od b W hmn hok ⟨T, vo, ve, hi, hst⟩
    have HIH := hide ih
    have HOK := hide hok
    have mn : ((m : Int) == (n : Int)) = false := by simp; omega
    have n0 : (0 : Int) ≤ (n : Int) := Int.natCast_nonneg _
    have m0 : (0 : Int) ≤ (m : Int) := Int.natCast_nonneg _
    obtain ⟨iP, hi1, hp0, hp1, hp2⟩ := info_parts int_info3
    obtain ⟨uo, co, rfl, _⟩ := hst.ord.form
    have HST := hide hst
    have c1 := hst.s.cell (m := 1) rfl
    have c2 := hst.s.cell (m := 2) rfl
    have HOM := hide hst.om
    have HEND : Hid (olT Wd P mm od n = ol Wd P (mm + 1) od) := hide (by show _ = (List.range P.length).flatMap _; rw [hPn]; rfl)
    clear hst ih hok
    go_enter Try.func28, Try.ntmps28
    go_wp2_with fail
    refine Go.Code.wp_mono (Only.to (fun _ _ h => h)) (od0 (hide c1) (hide c2) ?_)
    intro W1 hb1
    rw [mn]
    have HS1 := hide ((unhide HST).on hb1)
    clear hb1 c1 c2 HST
    go_wp2_with fail
    go_loopw [2, 3, 4] (fun s _ _ W => ∃ i : Nat, s = .int .i64 (i : Int) ∧ i ≤ n ∧ OdQ w0 W Wd P up n m cp sB tB od (bst Wd b (olT Wd P mm od i))) (fun s _ _ _ => n - (intOf s).toNat)
    case atStart => exact ⟨0, rfl, Nat.zero_le _, T, _, ve, hi, unhide HS1⟩
    case round =>
      clear HS1 T ve hi
      obtain ⟨i, rfl, hin, T, vo, ve, hi, hst⟩ := hrel
      have HST := hide hst
      have c1 := hst.s.cell (m := 1) rfl
      by_cases h : i < n
      · have i1 : (i : Int) < (n : Int) := by omega
        have i0 : (0 : Int) ≤ (i : Int) := Int.natCast_nonneg _
        have iz : decide ((i : Int) < (n : Int)) = true := decide_eq_true i1
        obtain ⟨uo', co', rfl, hfo⟩ := hst.ord.form
        have HFO := hide hfo
        have c2 := hst.s.cell (m := 2) rfl
        have HSU := hide (olT_succ Wd P mm od i)
        clear hst hfo
        go_wp2_with fail
        go_loopw [3, 4] (fun f s X => ∃ k : Nat, s = .int .i64 (k : Int) ∧ k ≤ m ∧ f = .bool ((od.take k).contains i) ∧ X = wr) (fun _ s _ => m - (intOf s).toNat)
        case atStart => exact ⟨0, rfl, Nat.zero_le _, by simp, rfl⟩
        case round =>
          obtain ⟨k, rfl, hk, rfl, rfl⟩ := hrel
          by_cases hkm : k < m
          · have k1 : (k : Int) < (m : Int) := by omega
            have k0 : (0 : Int) ≤ (k : Int) := Int.natCast_nonneg _
            have kz : decide ((k : Int) < (m : Int)) = true := decide_eq_true k1
            obtain ⟨j, hj⟩ := get_some (unhide HOM) hkm
            obtain ⟨gO, rfl, _, _, hints⟩ := unhide HFO (by omega)
            have cO := hints k (j : Int) (ints_at hj)
            rw [Nat.zero_add] at cO
            have HCT := hide (cont_take (i := i) hj)
            clear hints hj
            cases hc : (od.take k).contains i with
            | true =>
              rw [hc] at HCT
              go_wp2_with fail
              go_roundw
              case rel => first | exact ⟨k + 1, by simp, by omega, by rw [unhide HCT]; rfl, by first | rfl | trivial⟩ | ((repeat apply Exists.intro); refine ⟨?_, rfl⟩; exact ⟨k + 1, by simp, by omega, by rw [unhide HCT]; rfl, by first | rfl | trivial⟩)
              case measure => first | (simp only [intOf]; omega) | (simp [intOf]; omega)
            | false =>
              rw [hc] at HCT
              go_wp2_with fail
              go_roundw
              case rel => first | exact ⟨k + 1, by simp, by omega, by rw [unhide HCT]; simp, by first | rfl | trivial⟩ | ((repeat apply Exists.intro); refine ⟨?_, rfl⟩; exact ⟨k + 1, by simp, by omega, by rw [unhide HCT]; simp, by first | rfl | trivial⟩)
              case measure => first | (simp only [intOf]; omega) | (simp [intOf]; omega)
          · have kz : decide ((k : Int) < (m : Int)) = false := decide_eq_false (by omega)
            obtain rfl : m = k := by omega
            have hT : od.take m = od := List.take_of_length_le (Nat.le_of_eq (unhide HOM))
            rw [hT]
            clear hT
            cases hc : od.contains i with
            | true =>
              rw [if_pos hc, List.append_nil] at HSU
              go_wp2_with fail
              go_roundw
              case rel => first | exact ⟨i + 1, by simp, by omega, by rw [unhide HSU]; exact ⟨T, _, ve, hi, unhide HST⟩⟩ | ((repeat apply Exists.intro); refine ⟨?_, rfl⟩; exact ⟨i + 1, by simp, by omega, by rw [unhide HSU]; exact ⟨T, _, ve, hi, unhide HST⟩⟩)
              case measure => first | (simp only [intOf]; omega) | (simp [intOf]; omega)
            | false =>
              rw [if_neg (by rw [hc]; simp)] at HSU
              go_wp2_with (at_builtin; refine unhide ?_)
              refine hide ?_
              have HS3 := hide ((unhide HST).on (ba (Below.refl _ _) (.cells #[.int .i64 (i : Int)] 3)))
              have HNW := hide (vb_new wr 3 ([(i : Int)].map (Value.int .i64)) wr.heap.size rfl)
              refine wpList_append_new _ rfl _ _ 51 rfl w0.heap.size 3 iP _ 1 8 Try.underlying51 hi1 hp0 hp1 hp2 rfl (by decide) _ _ _ rfl (unhide HS3).ord _ 1 1 ([(i : Int)].map (Value.int .i64)) rfl rfl (by exact src_vb (unhide HNW)) ints_one (by unfold maxLen; omega) (by omega) (unhide HS3).bel.size ?_
              intro vo' W4 hown hgr _ hnb
              have HS4 := hide ((unhide HS3).push hown hgr hnb)
              have v4 := (unhide HS3).s.grown hgr (unhide HS3).os
              have d2 := v4.cell (m := 2) rfl
              have df := v4.frozen
              obtain ⟨u4, c4, rfl, _⟩ := (unhide HS4).ord.form
              clear hown hgr hnb HS3 HNW v4 c1 c2
              go_wp2_with fail
              refine (unhide HIH (m + 1) (od ++ [i]) _ _ (by omega) (fun k hk => by rcases List.mem_append.1 hk with h1 | h1; (exact unhide HOK k h1); (simp at h1; subst h1; exact h)) ⟨T, _, ve, hi, unhide HS4⟩).mono ?_
              rintro e W5 ⟨rfl, T5, vo5, ve5, hi5, hs5⟩
              obtain ⟨g5, c5, rfl, _, hg5, hc5, _⟩ := hs5.ord.sm (by
                intro e
                subst e
                rcases hs5.ord.2 with ⟨_, h0⟩ | ⟨_, _, _, h0, _⟩
                · exact absurd h0 (by omega)
                · cases h0)
              have HS5 := hide hs5
              have wm : IntKind.i64.wrap (((m + 1 : Nat) : Int) - 1) = (m : Int) := by rw [show ((m + 1 : Nat) : Int) - 1 = (m : Int) by omega]; exact wrap_i (by omega) (by omega)
              have e2 := hs5.s.cell (m := 2) rfl
              have el := hs5.s.lt
              have ef := hs5.s.frozen
              clear hs5 d2 df HS4
              go_wp2_with fail
              refine Go.Code.wp_mono (Only.to (fun _ _ h => h)) (od13 (m := m) (hide (by omega)) (hide (by omega)) (hide e2) el (hide e2) (hide ef) (hide wm) ?_)
              intro W6 W9 hW9 hb6
              subst hW9
              have HS9 := hide (((unhide HS5).on hb6).pop)
              clear hb6 e2 el ef wm HS5
              go_wp2_with fail
              go_roundw
              case rel =>
                have H : OdQ w0 (W6.setCell ⟨sB, 2, none⟩ (.slice (some ⟨g5, 0, none⟩) m c5)) Wd P up n m cp sB tB od (bst Wd b (olT Wd P mm od (i + 1))) := by rw [unhide HSU, bst_app]; exact ⟨T5, _, ve5, hi5, unhide HS9⟩
                first | exact ⟨i + 1, by simp, by omega, H⟩ | ((repeat apply Exists.intro); refine ⟨?_, rfl⟩; exact ⟨i + 1, by simp, by omega, H⟩)
              case measure => first | (simp only [intOf]; omega) | (simp [intOf]; omega)
      · have iz : decide ((i : Int) < (n : Int)) = false := decide_eq_false (by omega)
        obtain rfl : n = i := by omega
        clear hst
        go_wp2_with fail
        refine bodyPost_end (v := .tuple #[]) (by simp [results, Try.results28, go_sem]) rfl ⟨rfl, ?_⟩
        rw [← unhide HEND]
        exact ⟨T, vo, ve, hi, unhide HST⟩
end Go.Proofs.Ytoidhlackoigkaa
