/-
  The program's SketchFree.
-/
import Derived.Test.YtchdmigeopmacaaFreeQ
namespace Go.Proofs.Ytchdmigeopmacaa
open Go.ChangeShapes Go.WideShapes Go.ChangeAt Go.RowKit
set_option linter.unusedVariables false
set_option linter.unusedSimpArgs false

/-- labels, freedoms and spare rules behind j rules -/
def frTo (N : Nat) (rs : List Ru) : Nat → (List Int × Int) × List Nat
  | 0 => ((nats (List.range (2 * N + 1)), 2 * (N : Int)), [])
  | j + 1 => ((ruleL (frTo N rs j).1 (rs.getD j (0, 0, 0, 0))).1, if (ruleL (frTo N rs j).1 (rs.getD j (0, 0, 0, 0))).2 = true then (frTo N rs j).2 else (frTo N rs j).2 ++ [j])
theorem foldS_bd : ∀ (ss : List Sp) (acc : (List Int × Int) × Bool), acc.1.2 - (ss.length : Int) ≤ (ss.foldl ruleStep acc).1.2 ∧ (ss.foldl ruleStep acc).1.2 ≤ acc.1.2 ∧ (ss.foldl ruleStep acc).1.1.length = acc.1.1.length := by
  intro ss
  induction ss with
  | nil => intro acc; exact ⟨by simp, Int.le_refl _, rfl⟩
  | cons s ss ih =>
    intro acc
    have h1 := ruleStep_bd acc s
    have h2 := ih (ruleStep acc s)
    rw [List.foldl_cons, List.length_cons]
    refine ⟨by omega, by omega, h2.2.2.trans h1.2.2⟩
theorem ruleL_bd (s : List Int × Int) (r : Ru) : s.2 - 2 ≤ (ruleL s r).1.2 ∧ (ruleL s r).1.2 ≤ s.2 ∧ (ruleL s r).1.1.length = s.1.length := by
  have h := foldS_bd (spR r) (s, false)
  have h2 := spR_len r
  unfold ruleL
  exact ⟨by have := h.1; simp only at this; omega, h.2.1, h.2.2⟩
theorem freeP_bad (n : Int) (u : Option Addr) (l c : Nat) (w : World)
    (HOKP : Hid (∀ W, Below w.heap.size w W → Calls Try.prog 21 #[skv n u l c] W fun e w' => e = .returned (.bool false) ∧ Below W.heap.size W w')) :
    Calls Try.prog 13 #[skv n u l c] w fun e w' => e = .returned (.tuple #[.int .i64 0, .slice none 0 0, .int .i64 1]) ∧ Below w.heap.size w w' := by
  go_enter Try.func13, Try.ntmps13
  go_wp2_with fail
  refine (unhide HOKP _ (ba (Below.refl _ _) _)).mono ?_
  rintro e W1 ⟨rfl, hb1⟩
  have HB1 := hide (bc (ba (Below.refl _ _) _) hb1)
  clear hb1
  go_wp2_with fail
  exact bodyPost_ret (v := .tuple #[.int .i64 0, .slice none 0 0, .int .i64 1]) (by simp [results, Try.results13, go_sem]) rfl ⟨rfl, unhide HB1⟩
theorem freeP_core (n : Int) (u : Option Addr) (l c : Nat) (w : World)
    (HOKP : Hid (∀ W, Below w.heap.size w W → Calls Try.prog 21 #[skv n u l c] W fun e w' => e = .returned (.bool true) ∧ Below W.heap.size W w'))
    (HLOW : Hid (∀ W, Below w.heap.size w W → Calls Try.prog 22 #[.int .i64 n, .slice u l c] W fun e w' => (∃ v, e = .returned (.tuple #[v, .bool false])) ∧ Below W.heap.size W w')) :
    Calls Try.prog 13 #[skv n u l c] w fun e w' => e = .returned (.tuple #[.int .i64 0, .slice none 0 0, .int .i64 15]) ∧ Below w.heap.size w w' := by
  go_enter Try.func13, Try.ntmps13
  go_wp2_with fail
  refine (unhide HOKP _ (ba (Below.refl _ _) _)).mono ?_
  rintro e W1 ⟨rfl, hb1⟩
  have a0 : W1.cell? ⟨w.heap.size, 0, none⟩ = some (.int .i64 n) := keep1 hb1 (by simp [go_sem])
  have a1 : W1.cell? ⟨w.heap.size, 1, none⟩ = some (.slice u l c) := keep1 hb1 (by simp [go_sem])
  have HB1 := hide (bc (ba (Below.refl _ _) _) hb1)
  clear hb1
  go_wp2_with fail
  refine (unhide HLOW _ (unhide HB1)).mono ?_
  rintro e W2 ⟨⟨v2, rfl⟩, hb2⟩
  have HB2 := hide (bc (unhide HB1) hb2)
  clear hb2 a0 a1
  go_wp2_with fail
  exact bodyPost_ret (v := .tuple #[.int .i64 0, .slice none 0 0, .int .i64 15]) (by simp [results, Try.results13, go_sem]) rfl ⟨rfl, unhide HB2⟩

set_option maxHeartbeats 4000000 in
set_option maxRecDepth 100000 in
theorem freeP_kept (N n : Nat) (u : Option Addr) (p po l c : Nat) (rs : List Ru) (w : World) (h1 : 1 ≤ N) (h2 : N ≤ 24) (hn : n = 2 * N + 1) (HL : Hid (rs.length = l)) (hl : l ≤ 60)
    (HX : Hid (l ≠ 0 → u = some ⟨p, po, none⟩ ∧ p < w.heap.size ∧ RusAt w p po rs)) (HOK : Hid (∀ r ∈ rs, ruOk (N : Int) r = true))
    (HOKP : Hid (∀ W, Below w.heap.size w W → Calls Try.prog 21 #[skv (N : Int) u l c] W fun e w' => e = .returned (.bool true) ∧ Below W.heap.size W w'))
    (HLOW : Hid (∀ W, Below w.heap.size w W → Calls Try.prog 22 #[.int .i64 (N : Int), .slice u l c] W fun e w' => (∃ v, e = .returned (.tuple #[v, .bool true])) ∧ Below W.heap.size W w')) :
    Calls Try.prog 13 #[skv (N : Int) u l c] w fun e w' => ∃ v, e = .returned (.tuple #[.int .i64 (frTo N rs l).1.2, v, .int .i64 0]) ∧ Row w' w.heap.size 3 1 v (frTo N rs l).2.length (nats (frTo N rs l).2) ∧ Below w.heap.size w w' := by
  obtain ⟨i0, hi, hz0, hz1, hz2⟩ := info_parts info3k
  have HCO := hide (fun W => coords_any N W h2)
  have en : 2 * (N : Int) + 1 = (n : Int) := by omega
  rw [en] at HCO
  have hmk := fun W => make_ints (P := Try.prog) 28 3 1 8 n Try.underlying28 (.int .i64 0) (by rfl) (by omega) info3 (by omega) (by omega) W
  rw [Nat.mul_one] at hmk
  generalize hzz : zeros n = Q at hmk
  have HQ := hide hzz
  have HNN := hide hn
  have hn49 : n ≤ 49 := by omega
  have hn1 : 1 ≤ n := by omega
  have H0 : Hid (frTo N rs 0 = ((nats (List.range n), (n : Int) - 1), [])) := hide (by rw [hn]; show ((nats (List.range (2 * N + 1)), 2 * (N : Int)), ([] : List Nat)) = _; rw [show ((2 * N + 1 : Nat) : Int) - 1 = 2 * (N : Int) by omega])
  clear hzz en hn
  generalize hFF : frTo N rs l = FF
  have HFF := hide hFF
  clear hFF
  go_enter Try.func13, Try.ntmps13
  go_wp2_with fail
  refine (unhide HOKP _ (ba (Below.refl _ _) _)).mono ?_
  rintro e W1 ⟨rfl, hb1⟩
  have a0 : W1.cell? ⟨w.heap.size, 0, none⟩ = some (.int .i64 (N : Int)) := keep1 hb1 (by simp [go_sem])
  have a1 : W1.cell? ⟨w.heap.size, 1, none⟩ = some (.slice u l c) := keep1 hb1 (by simp [go_sem])
  have HB1 := hide (bc (ba (Below.refl _ _) _) hb1)
  clear hb1
  go_wp2_with fail
  refine (unhide HLOW _ (unhide HB1)).mono ?_
  rintro e W2 ⟨⟨v2, rfl⟩, hb2⟩
  have c0 := keep1 hb2 a0
  have c1 := keep1 hb2 a1
  have HB2 : Hid (Below w.heap.size w W2) := hide (bc (unhide HB1) hb2)
  have lt2 := cell_lt c0
  clear hb2 a0 a1
  go_wp2_with fail
  refine (unhide HCO _).mono ?_
  rintro e W2' ⟨rfl, hW⟩
  have hW' := hW.symm
  subst hW'
  clear hW
  go_wp2_with fail
  have hb3 := show Below W2.heap.size W2 ((W2.alloc (.cells (Q.map (Value.int .i64)).toArray 3)).alloc (.cells #[.slice (some ⟨W2.heap.size, 0, none⟩) n n] 28)) from ba (ba (Below.refl _ _) _) _
  have k7 : ((W2.alloc (.cells (Q.map (Value.int .i64)).toArray 3)).alloc (.cells #[.slice (some ⟨W2.heap.size, 0, none⟩) n n] 28)).cell? ⟨W2.heap.size + 1, 0, none⟩ = some (.slice (some ⟨W2.heap.size, 0, none⟩) n n) := by simp [go_sem]
  have HI3 : Hid (iblk ((W2.alloc (.cells (Q.map (Value.int .i64)).toArray 3)).alloc (.cells #[.slice (some ⟨W2.heap.size, 0, none⟩) n n] 28)) W2.heap.size 3 Q) := hide (bel_iblk (ba (Below.refl _ _) _) (iblk_new W2 3 Q))
  have HB3 := hide hb3
  clear hb3 hmk
  generalize (W2.alloc (.cells (Q.map (Value.int .i64)).toArray 3)).alloc (.cells #[.slice (some ⟨W2.heap.size, 0, none⟩) n n] 28) = W3 at *
  have lt7 := cell_lt k7
  generalize hLL : nats (List.range n) = LL at *
  have HLL : Hid (LL.length = n) := hide (by rw [← hLL, nats_len, List.length_range])
  have HLA : Hid (∀ i, i < n → LL[i]? = some (i : Int)) := hide (fun i hi => by rw [← hLL]; exact nats_at (List.getElem?_range hi))
  clear hLL
  have hb79 : w.heap.size + 1 ≤ W2.heap.size := by omega
  go_wp2_with fail
  go_loopw [33] (fun s W => ∃ i : Nat, s = .int .i64 (i : Int) ∧ i ≤ n ∧ iblk W W2.heap.size 3 (LL.take i ++ zeros (LL.length - i)) ∧ But W2.heap.size W3 W) (fun s _ => n - (intOf s).toNat)
  case atStart =>
    refine ⟨0, rfl, Nat.zero_le _, ?_, But.refl _ _⟩
    have e : LL.take 0 ++ zeros (LL.length - 0) = Q := by rw [unhide HLL, ← unhide HQ]; simp
    rw [e]
    exact unhide HI3
  case round =>
    obtain ⟨i, rfl, hin, hb, hw⟩ := hrel
    have HB := hide hb
    have HW := hide hw
    have k7' := cell_but hw (by omega) k7
    clear hb hw
    by_cases h : i < n
    · have i1 : (i : Int) < (n : Int) := by omega
      have i0' : (0 : Int) ≤ (i : Int) := Int.natCast_nonneg _
      have iz : decide ((i : Int) < (n : Int)) = true := decide_eq_true i1
      have hil : i < LL.length := by rw [unhide HLL]; exact h
      have m1 : wr.cell? ⟨W2.heap.size, i, none⟩ = some (.int .i64 0) := (unhide HB).cell (fill_at LL i 0 hil)
      have fz := (unhide HB).frozen
      have HFS := hide (fill_step LL i hil (i : Int) (unhide HLA i h))
      clear hil
      go_wp2_with fail
      go_roundw
      case rel =>
        refine ⟨i + 1, by simp, h, ?_, (unhide HW).setCell _ _⟩
        rw [← unhide HFS]
        exact (unhide HB).set i (i : Int)
      case measure => simp only [intOf]; omega
    · have i1 : ¬ (i : Int) < (n : Int) := by omega
      have iz : decide ((i : Int) < (n : Int)) = false := decide_eq_false i1
      have en : i = n := by omega
      subst en
      have HI4 : Hid (iblk wr W2.heap.size 3 LL) := hide (by
        have h1 := unhide HB
        rw [List.take_of_length_le (by rw [unhide HLL]; omega), show LL.length - i = 0 by rw [unhide HLL]; omega] at h1
        simpa [zeros] using h1)
      have HB4 : Hid (Below W2.heap.size W2 wr) := hide ((unhide HB3).trans ((unhide HW).bel (Nat.le_refl _)))
      have d0 := keep1 (unhide HB4) c0
      have d1 := keep1 (unhide HB4) c1
      have lt4 := cell_lt k7'
      have ltw0 := cell_lt d1
      clear HB
      go_wp2_with fail
      have hb5 := ba (Below.refl wr.heap.size wr) (.cells #[.int .i64 ((i : Int) - 1)] 3)
      have HF5 : Hid (iblk (wr.alloc (.cells #[.int .i64 ((i : Int) - 1)] 3)) wr.heap.size 3 [(i : Int) - 1]) := hide (heap_alloc_new wr _)
      have HI5 := hide (bel_iblk hb5 (unhide HI4))
      have k75 := keep1 hb5 k7'
      have e0 := keep1 hb5 d0
      have e1 := keep1 hb5 d1
      have HB5 : Hid (Below W2.heap.size W2 (wr.alloc (.cells #[.int .i64 ((i : Int) - 1)] 3))) := hide (bc (unhide HB4) hb5)
      have hsz5 : (wr.alloc (.cells #[.int .i64 ((i : Int) - 1)] 3)).heap.size = wr.heap.size + 1 := by simp
      generalize hb9 : wr.heap.size = b9 at *
      generalize wr.alloc (.cells #[.int .i64 ((i : Int) - 1)] 3) = W5 at *
      clear hb5 d0 d1 k7' HI4 HB4
      go_loopw [11, 48] (fun v s W => ∃ (j : Nat) (la : List Int) (f : Int) (sp : List Nat), s = .int .i64 (j : Int) ∧ j ≤ l ∧ frTo N rs j = ((la, f), sp) ∧ la.length = i ∧ (i : Int) - 1 - 2 * (j : Int) ≤ f ∧ f ≤ (i : Int) - 1 ∧ sp.length ≤ j ∧ iblk W W2.heap.size 3 la ∧ iblk W b9 3 [f] ∧ Row W (b9 + 1) 3 1 v sp.length (nats sp) ∧ Two W2.heap.size b9 W5 W) (fun _ s _ => l - (intOf s).toNat)
      case atStart => exact ⟨0, LL, (i : Int) - 1, [], rfl, Nat.zero_le _, unhide H0, unhide HLL, by simp, Int.le_refl _, Nat.le_refl _, unhide HI5, unhide HF5, World.ownsRow_nil _ _ _ _, Two.refl _ _ _⟩
      case round =>
        obtain ⟨j, la, f, sp, rfl, hj, hfr, hla, hf1, hf2, hsp, hg, hf, hrow, htw⟩ := hrel
        have HFR := hide hfr
        have HLAj := hide hla
        have HGj := hide hg
        have HFj := hide hf
        have HRj := hide hrow
        have HTW := hide htw
        have hbw : Below w.heap.size w wr := Two.bel (bc (unhide HB2) (unhide HB5)) htw (by omega) (by omega) (by have := (unhide HB5).size; omega)
        have HBW := hide hbw
        have szw := htw.size
        clear hfr hla hg hf hrow htw hbw
        by_cases hjl : j < l
        · have j1 : (j : Int) < (l : Int) := by omega
          have j0 : (0 : Int) ≤ (j : Int) := Int.natCast_nonneg _
          have jz : decide ((j : Int) < (l : Int)) = true := decide_eq_true j1
          obtain ⟨rfl, pw, pa⟩ := unhide HX (by omega)
          obtain ⟨r, hr⟩ : ∃ r, rs[j]? = some r := ⟨rs[j]'(by rw [unhide HL]; exact hjl), List.getElem?_eq_getElem _⟩
          have hok := unhide HOK r (List.mem_of_getElem? hr)
          obtain ⟨r0, r1, r2, r3⟩ := (pa.bel (unhide HBW) pw) j _ hr
          have HSA := hide (fun W (hW : Below wr.heap.size wr W) => says_any N i W2.heap.size (W2.heap.size + 1) b9 f la r W h2 (unhide HNN) HLAj (by omega) (by omega) (by omega) (by omega) (by omega) hok (keep1 hW ((unhide HTW).cell (by omega) (by omega) k75)) (hide (bel_iblk hW (unhide HGj))) (hide (bel_iblk hW (unhide HFj))))
          have HNX : Hid (frTo N rs (j + 1) = ((ruleL (la, f) r).1, if (ruleL (la, f) r).2 = true then sp else sp ++ [j])) := hide (by
            have hg : rs.getD j (0, 0, 0, 0) = r := by rw [List.getD_eq_getElem?_getD, hr]; rfl
            rw [frTo, unhide HFR, hg])
          have HRB := hide (ruleL_bd (la, f) r)
          have ltp := cell_lt r0
          obtain ⟨k, a, b, m⟩ := r
          simp only at r0 r1 r2 r3
          clear pa hr pw hok
          generalize ruleL (la, f) (k, a, b, m) = RR at *
          obtain ⟨⟨la2, f2⟩, nb⟩ := RR
          simp only at HSA HNX HRB
          go_wp2_with fail
          refine (unhide HSA _ (by repeat (first | exact Below.refl _ _ | refine ba ?_ _ | refine Below.drew ?_))).mono ?_
          rintro e W7 ⟨rfl, hg7, hf7, ht7⟩
          have HT6 : Hid (Two W2.heap.size b9 wr W7) := hide (Two.trans (by repeat (first | exact Two.refl _ _ _ | refine Two.alloc ?_ _ | refine Two.drew ?_)) ht7)
          have HG7 := hide hg7
          have HF7 := hide hf7
          have HT7 : Hid (Two W2.heap.size b9 W5 W7) := hide ((unhide HTW).trans (unhide HT6))
          have HR7 : Hid (Row W7 (b9 + 1) 3 1 u11 sp.length (nats sp)) := hide ((unhide HRj).kept (B' := 0) (fun q hq => by
            have := World.ownsRow.lt (unhide HRj) q hq
            exact (unhide HT6).block q this.2 (by omega) (by omega)))
          have sz7 := (unhide HT7).size
          clear hg7 hf7 ht7 r0 r1 r2 r3 HT6
          cases nb with
          | true =>
            go_wp2_with fail
            go_roundw
            case rel =>
              obtain ⟨b1, b2, b3⟩ := unhide HRB
              refine ⟨j + 1, la2, f2, sp, by simp, hjl, by rw [unhide HNX]; rfl, b3.trans (unhide HLAj), by omega, by omega, by omega, unhide HG7, unhide HF7, unhide HR7, unhide HT7⟩
            case measure => simp only [intOf]; omega
          | false =>
            go_wp2_with (at_builtin; refine unhide ?_)
            refine hide ?_
            refine wpList_append_own _ rfl _ _ 28 rfl (b9 + 1) 3 i0 _ 1 8 Try.underlying28 hi hz0 hz1 hz2 rfl (by decide) _ _ _ rfl ((unhide HR7).alloc _) _ 1 1 ([(j : Int)].map (Value.int .i64)) rfl rfl (by first | exact news_cells _ _ (by simp) | exact news_drew _ _ (by simp)) ints_one (by unfold maxLen; omega) (by omega) (by simp; omega) ?_
            intro v' w1 hown' hgrow _
            have R := hide (own_more (wr := W7) (news := [(j : Int)]) (by repeat (first | exact Below.refl _ _ | refine Below.alloc ?_ (by first | omega | (simp; omega)) _ | refine Below.drew ?_)) (by simp; omega) (unhide HR7) hown' hgrow)
            clear hown' hgrow
            go_wp2_with fail
            go_roundw
            case rel =>
              obtain ⟨b1, b2, b3⟩ := unhide HRB
              have hbl := (unhide R).2
              refine ⟨j + 1, la2, f2, sp ++ [j], by simp, hjl, by rw [unhide HNX]; rfl, b3.trans (unhide HLAj), by omega, by omega, by simp; omega, ?_, ?_, ?_, ?_⟩
              · exact (unhide HG7).below hbl (by omega)
              · exact (unhide HF7).below hbl (by omega)
              · have h1 := (unhide R).1
                have e1 : nats (sp ++ [j]) = nats sp ++ [(j : Int)] := by simp [nats]
                rw [e1, List.length_append]
                exact h1
              · have ht := unhide HT7
                exact ⟨hbl.os.trans ht.os, hbl.tape.trans ht.tape, hbl.output.trans ht.output, Nat.le_trans ht.size hbl.size, fun q hq e1 e2 => (hbl.block q (by omega)).trans (ht.block q hq e1 e2)⟩
            case measure => simp only [intOf]; omega
        · have j1 : ¬ (j : Int) < (l : Int) := by omega
          have jz : decide ((j : Int) < (l : Int)) = false := decide_eq_false j1
          have en : j = l := by omega
          subst en
          have m9 := (unhide HFj).cell (m := 0) (x := f) rfl
          have hq : FF = ((la, f), sp) := (unhide HFF).symm.trans (unhide HFR)
          subst hq
          go_wp2_with fail
          exact bodyPost_ret (v := .tuple #[.int .i64 f, u11, .int .i64 0]) (by simp [results, Try.results13, go_sem]) rfl ⟨_, rfl, (unhide HRj).mono (by omega), unhide HBW⟩
end Go.Proofs.Ytchdmigeopmacaa
