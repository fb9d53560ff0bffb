/-
  The program's taking at a place.
-/
import Derived.Test.YtjhldjojkaphkaaByt
import Derived.Test.YtjhldjojkaphkaaPlcK
namespace Go.Proofs.Ytjhldjojkaphkaa
open Go.ChangeShapes Go.WideShapes Go.ChangeAt Go.RowKit
set_option linter.unusedVariables false
set_option linter.unusedSimpArgs false

/-- a milling of the program, as it lies in memory -/
def pnV (e b W H : Int) (q n cap : Nat) (s : Ml) : List Value :=
  [.int .i64 e, .int .i64 b, .int .i64 W, .int .i64 H, .slice (some ⟨q, 0, none⟩) n cap, .int .i64 s.cut, .int .i64 s.air, .int .i64 s.dep]
structure Pn (X : World) (B D : Nat) (e b W H : Int) (q n cap : Nat) (s : Ml) : Prop where
  v : vb X D 34 (pnV e b W H q n cap s)
  row : Row X B 3 1 (.slice (some ⟨q, 0, none⟩) n cap) n s.T
theorem Pn.bel {X X' : World} {B D : Nat} {e b W H : Int} {q n cap : Nat} {s : Ml} (h : Pn X B D e b W H q n cap s) (hb : Below X.heap.size X X') : Pn X' B D e b W H q n cap s := ⟨h.v.bel hb, h.row.below hb⟩
theorem Pn.setCut {X : World} {B D : Nat} {e b W H : Int} {q n cap : Nat} {s : Ml} (h : Pn X B D e b W H q n cap s) (hq : D ≠ q) (v : Int) : Pn (X.setCell ⟨D, 5, none⟩ (.int .i64 v)) B D e b W H q n cap ⟨s.T, v, s.air, s.dep⟩ :=
  ⟨h.v.set 5 _, h.row.kept' (fun b hb => by simp only [Value.ownBlock, Option.some.injEq] at hb; subst hb; exact Below.heap_setCell _ _ _ _ (Ne.symm hq))⟩
theorem Pn.setAir {X : World} {B D : Nat} {e b W H : Int} {q n cap : Nat} {s : Ml} (h : Pn X B D e b W H q n cap s) (hq : D ≠ q) (v : Int) : Pn (X.setCell ⟨D, 6, none⟩ (.int .i64 v)) B D e b W H q n cap ⟨s.T, s.cut, v, s.dep⟩ :=
  ⟨h.v.set 6 _, h.row.kept' (fun b hb => by simp only [Value.ownBlock, Option.some.injEq] at hb; subst hb; exact Below.heap_setCell _ _ _ _ (Ne.symm hq))⟩
theorem Pn.setDep {X : World} {B D : Nat} {e b W H : Int} {q n cap : Nat} {s : Ml} (h : Pn X B D e b W H q n cap s) (hq : D ≠ q) (v : Int) : Pn (X.setCell ⟨D, 7, none⟩ (.int .i64 v)) B D e b W H q n cap ⟨s.T, s.cut, s.air, v⟩ :=
  ⟨h.v.set 7 _, h.row.kept' (fun b hb => by simp only [Value.ownBlock, Option.some.injEq] at hb; subst hb; exact Below.heap_setCell _ _ _ _ (Ne.symm hq))⟩
theorem Pn.setTop {X : World} {B D : Nat} {e b W H : Int} {q n cap : Nat} {s : Ml} (h : Pn X B D e b W H q n cap s) (hq : D ≠ q) (i : Nat) (hi : i < n) (v : Int) : Pn (X.setCell ⟨q, i, none⟩ (.int .i64 v)) B D e b W H q n cap ⟨s.T.set i v, s.cut, s.air, s.dep⟩ :=
  ⟨h.v.ne hq, h.row.set i (by omega) v⟩
theorem takeC_app (z : Int) (s : Ml) (a b : List Nat) : takeC z s (a ++ b) = takeC z (takeC z s a) b := by simp [takeC]
set_option maxHeartbeats 8000000 in
set_option maxRecDepth 100000 in
theorem tkP_any (v : Value) (Bp B D : Nat) (e b W H : Int) (q n cap : Nat) (ps : List (Nat × Nat)) (z : Int) (s : Ml) (w : World) (hps : Pcs w Bp v q 0 ps) (hv : v ≠ .slice none 0 0) (hr : ∀ p ∈ ps, 0 < p.2 ∧ p.1 + p.2 ≤ n) (hl : ps.length ≤ 24) (hn : n ≤ 576)
    (hz : 0 ≤ z ∧ z ≤ 24) (hO : MOk n s) (hDq : D ≠ q) (hBq : q < Bp) (hBD : D < Bp) (hP : Pn w B D e b W H q n cap s) :
    Calls Try.prog 73 #[.pointer (some ⟨D, 0, none⟩), v, .int .i64 z] w fun x w' => x = .returned (.tuple #[]) ∧ Pn w' B D e b W H q n cap (takeC z s (flatP ps)) ∧ Mq D q w w' := by
  obtain ⟨pq, pc, rfl, hp1, hp2, hc⟩ := hps.form hv
  simp only [Nat.zero_add] at hc
  have HC := hide hc
  have HR := hide hr
  have HO := hide hO
  have HP := hide hP
  have HPQ : Hid (q < pq ∧ D < pq) := hide ⟨by omega, by omega⟩
  have HP2 := hide hp2
  obtain ⟨m, hm⟩ : ∃ m, ps.length = m := ⟨_, rfl⟩
  have HM := hide hm
  rw [hm] at hl ⊢
  obtain ⟨hz0, hz1⟩ := hz
  have HTO : Hid (∀ cs, (∀ j ∈ cs, j < n) → MOk n (takeC z s cs)) := hide (fun cs h => (takeC_ok (z := z) hz0 cs s (unhide HO) h).1)
  have HCS : Hid (∀ (i j : Nat) (o l : Nat), ps[i]? = some (o, l) → j ≤ l → ∀ k ∈ flatP (ps.take i) ++ List.range' o j, k < n) := hide (fun i j o l hi hj k hk => by
    rcases List.mem_append.1 hk with h1 | h1
    · unfold flatP at h1
      obtain ⟨p, hp, hk2⟩ := List.mem_flatMap.1 h1
      have := (unhide HR) p (List.mem_of_mem_take hp)
      rw [List.mem_range'_1] at hk2
      omega
    · have := (unhide HR) _ (List.mem_of_getElem? hi)
      rw [List.mem_range'_1] at h1
      simp at this
      omega)
  clear hps hv hr hO hP hc hm
  go_enter Try.func73, Try.ntmps73
  go_wp2_with fail
  go_loopw [12] (fun zz X => ∃ i : Nat, zz = .int .i64 (i : Int) ∧ i ≤ m ∧ Pn X B D e b W H q n cap (takeC z s (flatP (ps.take i))) ∧ Mq D q w X) (fun zz _ => m - (intOf zz).toNat)
  case atStart => exact ⟨0, rfl, Nat.zero_le _, unhide HP, Mq.of_bel (Below.refl _ _)⟩
  case round =>
    obtain ⟨i, rfl, hii, hpn, hmq⟩ := hrel
    have HPi := hide hpn
    have HMi := hide hmq
    by_cases h : i < m
    · have i1 : (i : Int) < (m : Int) := by omega
      have i0 : (0 : Int) ≤ (i : Int) := Int.natCast_nonneg _
      have iz : decide ((i : Int) < (m : Int)) = true := decide_eq_true i1
      obtain ⟨⟨o, l⟩, hx⟩ := get_some (unhide HM) h
      have ck := (unhide HC) i (o, l) hx
      have hblk := hmq.block pq (unhide HP2) (by have := unhide HPQ; omega) (by have := unhide HPQ; omega)
      have ck' : wr.cell? ⟨pq, i, none⟩ = some (.slice (some ⟨q, o, none⟩) l l) := (World.cell?_of_block (w := w) (a := ⟨pq, i, none⟩) hblk).trans ck
      have HX := hide hx
      have HFT := hide (flat_take hx)
      have HPO := hide ((unhide HR) _ (List.mem_of_getElem? hx))
      have hlo : o + l ≤ n := by have := (unhide HPO).2; simpa using this
      clear hpn hmq hx ck hblk
      go_wp2_with fail
      clear ck'
      generalize hWo : wr = Wo at *
      clear hWo
      go_loopw [18] (fun zz X => ∃ j : Nat, zz = .int .i64 (j : Int) ∧ j ≤ l ∧ Pn X B D e b W H q n cap (takeC z s (flatP (ps.take i) ++ List.range' o j)) ∧ Mq D q w X) (fun zz _ => l - (intOf zz).toNat)
      case atStart => exact ⟨0, rfl, Nat.zero_le _, by simpa using unhide HPi, unhide HMi⟩
      case round =>
        obtain ⟨j, rfl, hjj, hpn, hmq⟩ := hrel
        have HPj := hide hpn
        have HMj := hide hmq
        by_cases h2 : j < l
        · have j1 : (j : Int) < (l : Int) := by omega
          have j0 : (0 : Int) ≤ (j : Int) := Int.natCast_nonneg _
          have jz : decide ((j : Int) < (l : Int)) = true := decide_eq_true j1
          have hok := (unhide HTO) _ ((unhide HCS) i j o l (unhide HX) hjj)
          have HTT : Hid (takeC z s (flatP (ps.take i) ++ List.range' o (j + 1)) = take1 z (takeC z s (flatP (ps.take i) ++ List.range' o j)) (o + j)) := hide (by
            rw [List.range'_concat, ← List.append_assoc, takeC_app]
            simp [takeC])
          generalize takeC z s (flatP (ps.take i) ++ List.range' o j) = sk at *
          have hok1 := hok.tops (o + j)
          have hok2 := hok.cut
          have hok3 := hok.cut_le
          have hok4 := hok.dep
          have hojn : o + j < n := by omega
          have c3 := hpn.row.cellAt (tp_at (T := sk.T) (i := o + j) (by rw [hok.len]; exact hojn))
          have k5 := hpn.v.cell (m := 5) rfl
          have k7 := hpn.v.cell (m := 7) rfl
          have fzD := hpn.v.frozen
          have fzq := hpn.row.frz
          have HT1 : Hid (take1 z sk (o + j) = if tp sk.T (o + j) > z then ⟨sk.T.set (o + j) z, sk.cut + (tp sk.T (o + j) - z), sk.air, max sk.dep (tp sk.T (o + j) - z)⟩ else sk) := hide rfl
          obtain ⟨tc, htc⟩ : ∃ tc, tp sk.T (o + j) = tc := ⟨_, rfl⟩
          rw [htc] at c3 hok1 HT1
          obtain ⟨cu, hcu⟩ : ∃ cu, sk.cut = cu := ⟨_, rfl⟩
          obtain ⟨de, hde⟩ : ∃ de, sk.dep = de := ⟨_, rfl⟩
          rw [hcu] at k5 hok2 hok3 HT1
          rw [hde] at k7 hok4 HT1
          have w1 : IntKind.i64.wrap (tc - z) = tc - z := Go.IntWalk.i64_in _ ⟨by omega, by omega⟩
          have w2 : IntKind.i64.wrap (cu + (tc - z)) = cu + (tc - z) := Go.IntWalk.i64_in _ ⟨by omega, by omega⟩
          clear hpn hmq hok htc hcu hde
          by_cases hd : z < tc
          · have td := decide_eq_true hd
            have HT2 : Hid (take1 z sk (o + j) = ⟨sk.T.set (o + j) z, cu + (tc - z), sk.air, max de (tc - z)⟩) := hide (by rw [unhide HT1, if_pos (by omega)])
            have hDq' : q ≠ D := Ne.symm hDq
            go_wp2_with fail
            first | go_region | skip
            go_wp2_with fail
            go_roundw
            case rel =>
              refine ⟨j + 1, by simp, h2, ?_, ?_⟩
              · rw [unhide HTT, unhide HT2]
                have h1 := (((unhide HPj).setTop hDq (o + j) hojn z).setCut hDq (cu + (tc - z))).setDep hDq (max de (tc - z))
                exact ⟨h1.v, h1.row⟩
              · have h1 := (((unhide HMj).setB (o + j) (.int .i64 z)).setA 5 (.int .i64 (cu + (tc - z)))).setA 7 (.int .i64 (max de (tc - z)))
                exact ⟨h1.os, h1.tape, h1.output, h1.size, h1.block⟩
            case measure => simp only [intOf]; omega
          · have td := decide_eq_false hd
            have HT2 : Hid (take1 z sk (o + j) = sk) := hide (by rw [unhide HT1, if_neg (by omega)])
            go_wp2_with fail
            go_roundw
            case rel => exact ⟨j + 1, by simp, h2, by rw [unhide HTT, unhide HT2]; exact unhide HPj, unhide HMj⟩
            case measure => simp only [intOf]; omega
        · have jz : decide ((j : Int) < (l : Int)) = false := decide_eq_false (by omega)
          have ej : j = l := by omega
          have HPn : Hid (Pn wr B D e b W H q n cap (takeC z s (flatP (ps.take (i + 1))))) := hide (by rw [unhide HFT]; rw [ej] at HPj; exact unhide HPj)
          clear hpn hmq
          go_wp2_with fail
          go_roundw
          case rel => exact ⟨i + 1, by simp, h, unhide HPn, unhide HMj⟩
          case measure => simp only [intOf]; omega
    · have iz : decide ((i : Int) < (m : Int)) = false := decide_eq_false (by omega)
      have HE : Hid (ps.take i = ps) := hide (List.take_of_length_le (by rw [unhide HM]; omega))
      clear hpn hmq
      go_wp2_with fail
      refine bodyPost_end (v := .tuple #[]) (by simp [results, Try.results73, go_sem]) rfl ⟨rfl, ?_, unhide HMi⟩
      have h1 := unhide HPi
      rw [unhide HE] at h1
      exact h1
end Go.Proofs.Ytjhldjojkaphkaa
