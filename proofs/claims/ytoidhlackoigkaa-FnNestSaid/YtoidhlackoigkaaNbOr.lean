/-
  The program's search through all orders, and its best nest.
-/
import Derived.Test.YtoidhlackoigkaaOr48
import Derived.Test.YtoidhlackoigkaaNbLy
import Derived.Test.YtoidhlackoigkaaNbMo
namespace Go.Proofs.Ytoidhlackoigkaa
open Go.ChangeShapes Go.WideShapes Go.ChangeAt Go.RowKit
set_option linter.unusedVariables false
set_option linter.unusedSimpArgs false

theorem nodup_le : ∀ (n : Nat) (l : List Nat), l.Nodup → (∀ k ∈ l, k < n) → l.length ≤ n := by
  intro n
  induction n with
  | zero =>
    intro l _ h
    cases l with
    | nil => simp
    | cons a l => have := h a (by simp); omega
  | succ n ih =>
    intro l hd h
    have h1 := ih (l.erase n) (hd.erase n) (fun k hk => by
      have := (hd.mem_erase_iff).1 hk
      have h2 := h k this.2
      omega)
    by_cases hn : n ∈ l
    · rw [List.length_erase_of_mem hn] at h1
      omega
    · rw [List.erase_of_not_mem hn] at h1
      omega
theorem all_in {n : Nat} {l : List Nat} (hd : l.Nodup) (h : ∀ k ∈ l, k < n) (hl : l.length = n) (i : Nat) (hi : i < n) : i ∈ l := by
  apply Decidable.byContradiction
  intro hn
  have := nodup_le n (i :: l) (List.nodup_cons.2 ⟨hn, hd⟩) (fun k hk => by rcases List.mem_cons.1 hk with rfl | hk; (exact hi); (exact h k hk))
  simp at this
  omega
theorem cont_ints (od : List Nat) (i : Nat) : (ints od).contains (i : Int) = od.contains i := by
  induction od with
  | nil => rfl
  | cons a od ih =>
    simp only [ints, List.map_cons, List.contains_cons] at ih ⊢
    rw [ih]
    congr 1
    by_cases h : i = a
    · subst h; simp
    · have e1 : (i == a) = false := by simp [h]
      have e2 : ((i : Int) == (a : Int)) = false := by simp; omega
      rw [e1, e2]
def fnO (g2 g3 g6 g7 : Nat) : Value := .func (.func 48) #[] #[.pointer (some ⟨g3, 0, none⟩), .pointer (some ⟨g6, 0, none⟩), .pointer (some ⟨g2, 0, none⟩), .pointer (some ⟨g7, 0, none⟩)]
theorem lef_new {V X : World} {g5 gn m cn i : Nat} {od : List Nat} (h : NewI V X gn m cn (ints od ++ [(i : Int)])) (hl : od.length = m) (hg : g5 < V.heap.size) : Lef X g5 (some ⟨gn, 0, none⟩) (m + 1) cn gn 0 (od ++ [i]) := by
  have hge := h.ge
  refine ⟨fun _ => ⟨rfl, h.lt, ?_⟩, by simp [hl], h.ca, fun _ => by omega⟩
  rw [ints_app]
  exact h.cl
set_option maxHeartbeats 16000000 in
set_option maxRecDepth 100000 in
theorem order_any (Wd : Int) (P : List Pl) (up : Option Addr) (n cp pp ppo g2 g3 g5 g6 g7 : Nat) (hW : 1 ≤ Wd ∧ Wd ≤ 1000) (hPn : P.length = n) (hn : n ≤ 900) (hpl : ∀ p ∈ P, (1 ≤ p.w ∧ p.w ≤ 1000) ∧ 1 ≤ p.h ∧ p.h ≤ 1000) (n7 : g7 ≠ g5) :
    ∀ (mm m : Nat) (od : List Nat) (b : Option (List Ld)) (uo : Option Addr) (co ob oo : Nat) (W : World), m + mm = n → (∀ k ∈ od, k < n) → od.Nodup → Lef W g5 uo m co ob oo od → (uo = none → co = 0) → (m = 0 → uo = none) → Env W Wd P up n cp pp ppo g2 g3 g5 g6 → vb W g7 88 [fnO g2 g3 g6 g7] → PsB W g5 Wd b →
      Calls Try.prog 48 #[.slice uo m co, .pointer (some ⟨g3, 0, none⟩), .pointer (some ⟨g6, 0, none⟩), .pointer (some ⟨g2, 0, none⟩), .pointer (some ⟨g7, 0, none⟩)] W fun e W' => e = .returned (.tuple #[]) ∧ LyQ W W' g5 Wd (bst Wd b (ol Wd P mm od)) := by
  intro mm
  induction mm with
  | zero =>
    intro m od b uo co ob oo W hmn hok hnd hlf hu0 hu1 henv h7 hps
    obtain rfl : m = n := by omega
    have HLAY := hide (lay_any Wd P up m cp pp ppo g2 g3 g5 g6 hW hPn hpl od [] [] b none 0 0 0 0 uo m co ob oo W (by omega) hok (nst_nil _) fol_nil (fun q hq => by cases hq) ⟨fun h => absurd rfl h, rfl, near_nil, Nat.le_refl _, fun _ => rfl, fun _ => rfl, fun h => absurd rfl h⟩ hlf henv hps)
    have HLF := hide hlf
    have HENV := hide henv
    have HIN := hide (fun i (hi : i < m) => all_in hnd hok hlf.len i hi)
    have HOL : Hid (ol Wd P 0 od = lv Wd P od []) := hide rfl
    have c3 := henv.w3.cell (m := 0) rfl
    have c2 := henv.w2.cell (m := 0) rfl
    have c6 := henv.w6.cell (m := 0) rfl
    unfold fnV at c6
    have kk : ((m : Int) == (m : Int)) = true := by simp
    have m0 : (0 : Int) ≤ (m : Int) := Int.natCast_nonneg _
    clear hlf henv hps h7
    go_enter Try.func48, Try.ntmps48
    go_wp2_with fail
    refine (unhide HLAY).mono ?_
    rintro e W1 ⟨rfl, hp1, hf1⟩
    have HP1 := hide hp1
    have HF1 := hide hf1
    have HL1 := hide ((unhide HLF).fr hf1)
    have c3 := ((unhide HENV).fr hf1).w3.cell (m := 0) rfl
    clear hp1 hf1 c2 c6 HLAY
    go_wp2_with fail
    go_loopw [6, 19] (fun _ s X => ∃ i : Nat, s = .int .i64 (i : Int) ∧ i ≤ m ∧ X = W1) (fun _ s _ => m - (intOf s).toNat)
    case atStart => exact ⟨0, rfl, Nat.zero_le _, rfl⟩
    case round =>
      obtain ⟨i, rfl, hi, rfl⟩ := hrel
      by_cases h : i < m
      · have i1 : (i : Int) < (m : Int) := by omega
        have i0 : (0 : Int) ≤ (i : Int) := Int.natCast_nonneg _
        have iz : decide ((i : Int) < (m : Int)) = true := decide_eq_true i1
        have HC : Hid ((ints od).contains (i : Int) = true) := hide (by rw [cont_ints]; simpa using unhide HIN i h)
        have HCT := hide (ctI_any uo ob oo m co (ints od) (i : Int) _ (by rw [ints_len]; exact (unhide HL1).len) (by omega) (unhide HL1).it)
        rw [unhide HC] at HCT
        go_wp2_with fail
        refine (unhide HCT).mono ?_
        rintro e w' ⟨rfl, rfl⟩
        go_wp2_with fail
        go_roundw
        case rel => first | exact ⟨i + 1, by simp, by omega, by first | rfl | trivial⟩ | ((repeat apply Exists.intro); refine ⟨?_, rfl⟩; exact ⟨i + 1, by simp, by omega, by first | rfl | trivial⟩)
        case measure => first | (simp only [intOf]; omega) | (simp [intOf]; omega)
      · have iz : decide ((i : Int) < (m : Int)) = false := decide_eq_false (by omega)
        go_wp2_with fail
        refine bodyPost_end (v := .tuple #[]) (by simp [results, Try.results48, go_sem]) rfl ⟨rfl, ?_⟩
        rw [unhide HOL]
        exact ⟨unhide HP1, unhide HF1⟩
  | succ mm ih =>
    intro m od b uo co ob oo W hmn hok hnd hlf hu0 hu1 henv h7 hps
    have HIH := hide ih
    have HOK := hide hok
    have HND := hide hnd
    have HLF := hide hlf
    have HENV := hide henv
    have H7 := hide h7
    have HPS := hide hps
    have HEND : Hid (olT Wd P mm od n = ol Wd P (mm + 1) od) := hide (by show _ = (List.range P.length).flatMap _; rw [hPn]; rfl)
    have c3 := henv.w3.cell (m := 0) rfl
    have mn : ((m : Int) == (n : Int)) = false := by simp; omega
    have n0 : (0 : Int) ≤ (n : Int) := Int.natCast_nonneg _
    clear hlf henv hps h7 ih hok hnd
    go_enter Try.func48, Try.ntmps48
    go_wp2_with fail
    go_loopw [6, 19] (fun _ s X => ∃ i : Nat, s = .int .i64 (i : Int) ∧ i ≤ n ∧ PsB X g5 Wd (bst Wd b (olT Wd P mm od i)) ∧ Fr2 g5 g5 W X) (fun _ s _ => n - (intOf s).toNat)
    case atStart => exact ⟨0, rfl, Nat.zero_le _, unhide HPS, Fr2.refl _ _ _⟩
    case round =>
      obtain ⟨i, rfl, hi, hp, hf⟩ := hrel
      have HP := hide hp
      have HF := hide hf
      have HL1 := hide ((unhide HLF).fr hf)
      have HE1 := hide ((unhide HENV).fr hf)
      have H71 := hide (hf.vb (unhide H7) n7 n7)
      clear hp hf
      by_cases h : i < n
      · have i1 : (i : Int) < (n : Int) := by omega
        have i0 : (0 : Int) ≤ (i : Int) := Int.natCast_nonneg _
        have iz : decide ((i : Int) < (n : Int)) = true := decide_eq_true i1
        have HSU := hide (olT_succ Wd P mm od i)
        have HCT := hide (ctI_any uo ob oo m co (ints od) (i : Int) wr (by rw [ints_len]; exact (unhide HL1).len) (by omega) (unhide HL1).it)
        rw [cont_ints] at HCT
        cases hc : od.contains i with
        | true =>
          rw [hc] at HCT
          rw [if_pos hc, List.append_nil] at HSU
          go_wp2_with fail
          refine (unhide HCT).mono ?_
          rintro e w' ⟨rfl, rfl⟩
          go_wp2_with fail
          go_roundw
          case rel => first | exact ⟨i + 1, by simp, by omega, by rw [unhide HSU]; exact unhide HP, unhide HF⟩ | ((repeat apply Exists.intro); refine ⟨?_, rfl⟩; exact ⟨i + 1, by simp, by omega, by rw [unhide HSU]; exact unhide HP, unhide HF⟩)
          case measure => first | (simp only [intOf]; omega) | (simp [intOf]; omega)
        | false =>
          rw [hc] at HCT
          rw [if_neg (by rw [hc]; simp)] at HSU
          have hni : i ∉ od := by intro hm; simp [hm] at hc
          have HREC : Hid (∀ X gn cn, Below wr.heap.size wr X → NewI wr X gn m cn (ints od ++ [(i : Int)]) → Calls Try.prog 48 #[.slice (some ⟨gn, 0, none⟩) (m + 1) cn, .pointer (some ⟨g3, 0, none⟩), .pointer (some ⟨g6, 0, none⟩), .pointer (some ⟨g2, 0, none⟩), .pointer (some ⟨g7, 0, none⟩)] X fun e w' => e = .returned (.tuple #[]) ∧ (fun Y => LyQ wr Y g5 Wd (bst Wd (bst Wd b (olT Wd P mm od i)) (ol Wd P mm (od ++ [i])))) w') := hide (fun X gn cn hX hnew => by
            refine (unhide HIH (m + 1) (od ++ [i]) _ (some ⟨gn, 0, none⟩) cn gn 0 X (by omega) (fun k hk => by rcases List.mem_append.1 hk with h1 | h1; (exact unhide HOK k h1); (simp at h1; subst h1; exact h)) (by rw [List.nodup_append]; exact ⟨unhide HND, by simp, fun a ha b hb => by simp at hb; subst hb; intro e; subst e; exact hni ha⟩) (lef_new hnew (unhide HL1).len (unhide HP).lt) (fun e => by cases e) (fun e => by omega) ((unhide HE1).fr (Fr2.bel hX)) ((unhide H71).bel hX) ((unhide HP).bel hX)).mono ?_
            rintro e w' ⟨rfl, q1, q2⟩
            exact ⟨rfl, q1, (Fr2.bel hX).trans q2⟩)
          go_wp2_with fail
          refine (unhide HCT).mono ?_
          rintro e w' ⟨rfl, hq⟩
          rw [hq]
          clear hq
          go_wp2_with fail
          refine Go.Code.wp_mono (Only.to (fun _ _ h => h)) (or6 (L := ints od) (Z := fun Y => LyQ wr Y g5 Wd (bst Wd (bst Wd b (olT Wd P mm od i)) (ol Wd P mm (od ++ [i])))) (hide ((unhide H71).cell (m := 0) rfl)) (hide (by rw [ints_len]; exact (unhide HL1).len)) (hide (unhide HL1).it) (unhide HL1).ca (by omega) hu0 hu1 HREC ?_)
          intro n4 gn cn W9 hz
          have HZ := hide hz
          have HFZ := hide ((unhide HF).trans hz.2)
          clear hz HREC HCT
          go_wp2_with fail
          go_roundw
          case rel => first | exact ⟨i + 1, by simp, by omega, by rw [unhide HSU, bst_app]; exact (unhide HZ).1, unhide HFZ⟩ | ((repeat apply Exists.intro); refine ⟨?_, rfl⟩; exact ⟨i + 1, by simp, by omega, by rw [unhide HSU, bst_app]; exact (unhide HZ).1, unhide HFZ⟩)
          case measure => first | (simp only [intOf]; omega) | (simp [intOf]; omega)
      · have iz : decide ((i : Int) < (n : Int)) = false := decide_eq_false (by omega)
        obtain rfl : n = i := by omega
        go_wp2_with fail
        refine bodyPost_end (v := .tuple #[]) (by simp [results, Try.results48, go_sem]) rfl ⟨rfl, ?_⟩
        rw [← unhide HEND]
        exact ⟨unhide HP, unhide HF⟩
end Go.Proofs.Ytoidhlackoigkaa
