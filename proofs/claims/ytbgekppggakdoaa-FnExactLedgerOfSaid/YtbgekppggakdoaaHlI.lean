/-
  The hall behind a plan, and the program's PlanCode.
-/
import Derived.Test.YtbgekppggakdoaaHlH
namespace Go.Proofs.Ytbgekppggakdoaa
open Go.ChangeShapes Go.WideShapes Go.ChangeAt Go.RowKit
set_option linter.unusedVariables false
set_option linter.unusedSimpArgs false

/-- the first slot that is wrong -/
def fstB (N S L : Int) (J : List Jb) (P : List Slt) : Option Nat := (List.range P.length).find? fun i => decide (cAt N S L J P i ≠ 0)
noncomputable def pcC (N S L : Int) (J : List Jb) (P : List Slt) : Int :=
  if 4096 < P.length ∨ 4096 < J.length then 2 else if shOk N S L J = true then
    match fstB N S L J P with
    | some i => cAt N S L J P i
    | none => if anyL J (hal N J P) then 18 else 0
  else 1
noncomputable def pcN (N S L : Int) (J : List Jb) (P : List Slt) : Int :=
  if 4096 < P.length ∨ 4096 < J.length then 0 else if shOk N S L J = true then
    match fstB N S L J P with
    | some i => (i : Int)
    | none => if anyL J (hal N J P) then (P.length : Int) else 0
  else 0
theorem fstB_some {N S L : Int} {J : List Jb} {P : List Slt} {i : Nat} (hi : i < P.length) (hu : Up N S L J P i) (hc : cAt N S L J P i ≠ 0) : fstB N S L J P = some i := by
  unfold fstB
  rw [List.find?_range_eq_some]
  refine ⟨by simpa using hc, by simpa using hi, ?_⟩
  intro k hk
  simp [hu k hk]
theorem fstB_none {N S L : Int} {J : List Jb} {P : List Slt} (hu : Up N S L J P P.length) : fstB N S L J P = none := by
  unfold fstB
  rw [List.find?_eq_none]
  intro k hk
  simp [hu k (List.mem_range.1 hk)]
theorem Up.succ {N S L : Int} {J : List Jb} {P : List Slt} {i : Nat} (hu : Up N S L J P i) (hc : cAt N S L J P i = 0) : Up N S L J P (i + 1) := by
  intro k hk
  by_cases e : k = i
  · rw [e]; exact hc
  · exact hu k (by omega)
theorem cAt_some {N S L : Int} {J : List Jb} {P : List Slt} {i : Nat} {x : Slt} (h : P[i]? = some x) : cAt N S L J P i = sCd S L J (hal N J (P.take i)) x := by
  unfold cAt; rw [h]
theorem SlG.sat6 {w : World} {u : Option Addr} {p po : Nat} {P : List Slt} (h : SlG slc 6 w u p po P) {i : Nat} {x : Slt} (hi : P[i]? = some x) :
    u = some ⟨p, po, none⟩ ∧ p < w.heap.size ∧ w.cell? ⟨p, po + i * 6, none⟩ = some (.int .i64 x.jb) ∧ w.cell? ⟨p, po + i * 6 + 1, none⟩ = some (.int .i64 x.st) ∧ w.cell? ⟨p, po + i * 6 + 2, none⟩ = some (.int .i64 x.mc) ∧ w.cell? ⟨p, po + i * 6 + 3, none⟩ = some (.int .i64 x.fr) ∧ w.cell? ⟨p, po + i * 6 + 4, none⟩ = some (.int .i64 x.ti) ∧ w.cell? ⟨p, po + i * 6 + 5, none⟩ = some (.bool x.fs) := by
  obtain ⟨h1, h2, h3⟩ := h.at hi
  exact ⟨h1, h2, h3 0 _ rfl, h3 1 _ rfl, h3 2 _ rfl, h3 3 _ rfl, h3 4 _ rfl, h3 5 _ rfl⟩
/-- how hallBehind ends -/
def HbAns (N S L : Int) (u : Option Addr) (n c : Nat) (J : List Jb) (P : List Slt) (B : Nat) (v : Value) (W : World) : Prop :=
  ∃ v0, v = .tuple #[v0, .int .i64 (pcC N S L J P), .int .i64 (pcN N S L J P)] ∧ (pcC N S L J P = 0 → ∃ hb gm gs, v0 = .pointer (some ⟨hb, 0, none⟩) ∧ B ≤ hb ∧ B ≤ gm ∧ B ≤ gs ∧ Hm W hb gm gs N.toNat S L u n c (hal N J P))
set_option maxRecDepth 100000 in
set_option maxHeartbeats 8000000 in
theorem hbP_any (N S L : Int) (u : Option Addr) (p po n c : Nat) (J : List Jb) (pu : Option Addr) (pp ppo np pcap : Nat) (P : List Slt) (w : World) (hl : J.length = n) (hn : n ≤ 9223372036854775807) (hu : Jbs w u p po J) (hpl : P.length = np) (hnp : np ≤ 9223372036854775807) (hp : SlG slc 6 w pu pp ppo P) :
    Calls Try.prog 40 #[.agg #[.int .i64 N, .int .i64 S, .int .i64 L], .slice u n c, .slice pu np pcap] w fun e w' => (∃ v, e = .returned v ∧ HbAns N S L u n c J P w.heap.size v w') ∧ Below w.heap.size w w' := by
  have HB0 := hide (ba (Below.refl w.heap.size w) (.cells #[.int .i64 N, .int .i64 S, .int .i64 L] 27))
  have HV := hide (vb_new w 27 [.int .i64 N, .int .i64 S, .int .i64 L] w.heap.size rfl)
  have HU := hide (fun X (hX : Below w.heap.size w X) => hu.bel hX)
  have HPS := hide (fun X (hX : Below w.heap.size w X) => hp.bel hX)
  have HC := hide (fun X (hX : Below w.heap.size w X) => shc_any N S L u p po n c J X hl hn (hu.bel hX))
  have n0 : (0 : Int) ≤ (n : Int) := Int.natCast_nonneg _
  have np0 : (0 : Int) ≤ (np : Int) := Int.natCast_nonneg _
  by_cases g1 : 4096 < np
  · have t1 : decide ((4096 : Int) < (np : Int)) = true := decide_eq_true (by omega)
    have HA : Hid (HbAns N S L u n c J P w.heap.size (.tuple #[.pointer none, .int .i64 2, .int .i64 0]) (w.alloc (.cells #[.int .i64 N, .int .i64 S, .int .i64 L] 27))) := hide (by
      have e1 : pcC N S L J P = 2 := by unfold pcC; rw [if_pos (by omega)]
      have e2 : pcN N S L J P = 0 := by unfold pcN; rw [if_pos (by omega)]
      exact ⟨.pointer none, by rw [e1, e2], by rw [e1]; intro h; cases h⟩)
    clear hu hl hp hpl
    go_enter Try.func40, Try.ntmps40
    go_wp2_with fail
    exact bodyPost_ret (v := .tuple #[.pointer none, .int .i64 2, .int .i64 0]) (by simp [results, Try.results40, go_sem]) rfl ⟨⟨_, rfl, unhide HA⟩, unhide HB0⟩
  have t1 : decide ((4096 : Int) < (np : Int)) = false := decide_eq_false (by omega)
  by_cases hbd : 4096 < J.length ∨ shOk N S L J = false
  · have e2 : bdC N S L J ≠ 0 := by
      unfold bdC
      rcases hbd with h | h
      · rw [if_pos h]; decide
      · split
        · decide
        · rw [h, if_neg (by simp)]; decide
    have HA : Hid (∀ W, HbAns N S L u n c J P w.heap.size (.tuple #[.pointer none, .int .i64 (bdC N S L J), .int .i64 0]) W) := hide (by
      intro W
      have e1 : pcC N S L J P = bdC N S L J := by
        unfold pcC bdC
        by_cases h : 4096 < J.length
        · rw [if_pos (.inr h), if_pos h]
        · rcases hbd with h' | h'
          · exact absurd h' h
          · rw [if_neg (by omega), if_neg h, h']; simp
      have e3 : pcN N S L J P = 0 := by
        unfold pcN
        by_cases h : 4096 < J.length
        · rw [if_pos (.inr h)]
        · rcases hbd with h' | h'
          · exact absurd h' h
          · rw [if_neg (by omega), h']; simp
      exact ⟨.pointer none, by rw [e1, e3], by rw [e1]; intro h; exact absurd h e2⟩)
    generalize bdC N S L J = cc at *
    have cz : (cc != 0) = true := by simp [e2]
    clear hu hl hp hpl e2 hbd
    go_enter Try.func40, Try.ntmps40
    go_wp2_with fail
    refine (unhide HC _ (unhide HB0)).mono ?_
    rintro e W1 ⟨rfl, hb⟩
    have HB1 := hide (bc (unhide HB0) hb)
    clear hb
    go_wp2_with fail
    exact bodyPost_ret (v := .tuple #[.pointer none, .int .i64 cc, .int .i64 0]) (by simp [results, Try.results40, go_sem]) rfl ⟨⟨_, rfl, unhide HA _⟩, unhide HB1⟩
  have hln : ¬ 4096 < J.length := fun h => hbd (.inl h)
  have hsh : shOk N S L J = true := by cases h : shOk N S L J with | true => rfl | false => exact absurd (.inr h) hbd
  obtain ⟨⟨N1, N2⟩, ⟨S1, S2⟩, ⟨L1, L2⟩, hJ20, hJok, hnd⟩ := shOk_iff.1 hsh
  have e2 : bdC N S L J = 0 := by unfold bdC; rw [if_neg hln, if_pos hsh]
  rw [e2] at HC
  have HPC : Hid (pcC N S L J P = match fstB N S L J P with | some i => cAt N S L J P i | none => if anyL J (hal N J P) then 18 else 0) := hide (by unfold pcC; rw [if_neg (by omega), if_pos hsh])
  have HPN : Hid (pcN N S L J P = match fstB N S L J P with | some i => (i : Int) | none => if anyL J (hal N J P) then (P.length : Int) else 0) := hide (by unfold pcN; rw [if_neg (by omega), if_pos hsh])
  obtain ⟨m, rfl⟩ := Int.eq_ofNat_of_zero_le (show 0 ≤ N by omega)
  have HHV := hide (fun i (hi : i ≤ P.length) (h : Up (m : Int) S L J P i) => Hv.up N1 ⟨S1, S2⟩ (by omega) hJok i hi h)
  have HL := hide hl
  have HPL := hide hpl
  have HJ := hide hJok
  have n20 : n ≤ 20 := by rw [← hl]; exact hJ20
  have HSP : Hid (∀ j ∈ J, j.st ≠ [] → j.sp < w.heap.size) := hide (fun j hj hne => ((hu.each j hj).row hne).2.1)
  have HPP : Hid (J ≠ [] → p < w.heap.size) := hide (fun hne => (hu.row hne).2.1)
  have m16 : 1 ≤ m ∧ m ≤ 6 := by omega
  clear hu hl hp hpl e2 hsh hnd hJok hbd hln
  go_enter Try.func40, Try.ntmps40
  go_wp2_with fail
  refine (unhide HC _ (unhide HB0)).mono ?_
  rintro e W1 ⟨rfl, hb⟩
  have v1 := (unhide HV).bel hb
  have k0 := v1.cell (m := 0) rfl
  have k1 := v1.cell (m := 1) rfl
  have k2 := v1.cell (m := 2) rfl
  have HB1 := hide (bc (unhide HB0) hb)
  clear hb v1
  go_wp2_with fail
  refine (newH_any m S L u n c J W1 m16.1 m16.2 (by omega) (unhide HL)).mono ?_
  rintro e W2 ⟨⟨hb, gm, gs, rfl, q1, q2, q3, hm2⟩, hb2⟩
  have HM2 := hide hm2
  have HB2 := hide (bc (unhide HB1) hb2)
  have HQ1 : Hid (w.heap.size ≤ hb ∧ w.heap.size ≤ gm ∧ w.heap.size ≤ gs) := hide (by have := (unhide HB1).size; exact ⟨by omega, by omega, by omega⟩)
  clear hm2 hb2 q1 q2 q3 k0 k1 k2
  go_wp2_with fail
  go_loopw [11, 12, 13, 28] (fun _ _ _ s W => ∃ i : Nat, s = .int .i64 (i : Int) ∧ i ≤ np ∧ Up (m : Int) S L J P i ∧ Hm W hb gm gs m S L u n c (hal (m : Int) J (P.take i)) ∧ Below w.heap.size w W) (fun _ _ _ s _ => np - (intOf s).toNat)
  case atStart => exact ⟨0, rfl, Nat.zero_le _, fun k hk => absurd hk (by omega), by simpa [hal] using unhide HM2, unhide HB2⟩
  case round =>
    obtain ⟨i, rfl, hi, hup, hm, hbw⟩ := hrel
    have HUP := hide hup
    have HM := hide hm
    have HB := hide hbw
    have i0 : (0 : Int) ≤ (i : Int) := Int.natCast_nonneg _
    clear hup hm
    by_cases h : i < np
    · have i1 : (i : Int) < (np : Int) := by omega
      have iz : decide ((i : Int) < (np : Int)) = true := decide_eq_true i1
      obtain ⟨x, hx⟩ := get_some (unhide HPL) h
      obtain ⟨rfl, ppw, z0, z1, z2, z3, z4, z5⟩ := (unhide HPS _ hbw).sat6 hx
      have hv := unhide HHV i (by rw [unhide HPL]; omega) (unhide HUP)
      have HV9 := hide hv
      have HX := hide hx
      have HCA : Hid (cAt (m : Int) S L J P i = sCd S L J (hal (m : Int) J (P.take i)) x) := hide (cAt_some hx)
      have HT := hide (hal_take (m : Int) J hx)
      generalize hal (m : Int) J (P.take i) = hh at *
      have HSC := hide (fun W (hW : Below w.heap.size w W) (hM : Hm W hb gm gs m S L u n c hh) => slotC_any hb gm gs m S L u p po n c J hh x W (by omega) hM (unhide HL) (unhide HU _ hW) (unhide HJ) ⟨S1, S2⟩ ⟨L1, L2⟩ (unhide HV9).hk)
      have HDO : Hid (sCd S L J hh x = 0 → ∀ W, Below w.heap.size w W → Hm W hb gm gs m S L u n c hh → Calls Try.prog 59 #[.pointer (some ⟨hb, 0, none⟩), .agg #[.int .i64 x.jb, .int .i64 x.st, .int .i64 x.mc, .int .i64 x.fr, .int .i64 x.ti, .bool x.fs]] W fun e w' => e = .returned (.tuple #[]) ∧ Hm w' hb gm gs m S L u n c (sDo J hh x) ∧ Mw (fun k => k = gm ∨ k = gs) W w') := hide (fun hz W hW hM => do_any hb gm gs m S L u p po n c J hh x W (by omega) hM (unhide HL) (unhide HU _ hW) (unhide HJ) ⟨S1, S2⟩ ⟨L1, L2⟩ (unhide HV9).hk hz
        (fun b hb' j hj e => by
          have h1 := unhide HSP j hj (by intro e0; have := jbOk_len (unhide HJ j hj); rw [e0] at this; simp at this)
          have h2 := unhide HQ1
          rcases hb' with rfl | rfl <;> omega)
        (by
          have h2 := unhide HQ1
          obtain ⟨s, hs, _⟩ := sCd_zero hz
          obtain ⟨_, _, _, j, hj, _⟩ := stOf_some hs
          have h1 := unhide HPP (by intro e0; rw [e0] at hj; cases hj)
          exact ⟨by omega, by omega⟩))
      obtain ⟨jb, st, mc, fr, ti, fs⟩ := x
      simp only [] at z0 z1 z2 z3 z4 z5 HDO HSC
      have HMA := hide ((unhide HM).bel (ba (Below.refl _ _) (.cells #[.int .i64 jb, .int .i64 st, .int .i64 mc, .int .i64 fr, .int .i64 ti, .bool fs] 71)))
      have HBA := hide (ba (unhide HB) (.cells #[.int .i64 jb, .int .i64 st, .int .i64 mc, .int .i64 fr, .int .i64 ti, .bool fs] 71))
      have HVA := hide (vb_new wr 71 [.int .i64 jb, .int .i64 st, .int .i64 mc, .int .i64 fr, .int .i64 ti, .bool fs] wr.heap.size rfl)
      clear hx hbw hv
      go_wp2_with fail
      refine (unhide HSC _ (unhide HBA) (unhide HMA)).mono ?_
      rintro e W3 ⟨rfl, hb3⟩
      have HB3 := hide (bc (unhide HBA) hb3)
      have HM3 := hide ((unhide HMA).bel hb3)
      have v3 := (unhide HVA).bel hb3
      have b0 := v3.cell (m := 0) rfl
      have b1 := v3.cell (m := 1) rfl
      have b2 := v3.cell (m := 2) rfl
      have b3 := v3.cell (m := 3) rfl
      have b4 := v3.cell (m := 4) rfl
      have b5 := v3.cell (m := 5) rfl
      have bl := v3.lt
      clear hb3 v3
      by_cases hz : sCd S L J hh ⟨jb, st, mc, fr, ti, fs⟩ = 0
      · have HZ := hide hz
        have HD := hide (unhide HDO hz)
        rw [hz]
        have cz : ((0 : Int) != 0) = false := by simp
        clear hz
        go_wp2_with fail
        refine (unhide HD _ (unhide HB3) (unhide HM3)).mono ?_
        rintro e W4 ⟨rfl, hm4, hw4⟩
        have HM4 := hide hm4
        have HB4 : Hid (Below w.heap.size w W4) := hide ((unhide HB3).trans (hw4.bel (unhide HB3).size (fun k hk => by have := unhide HQ1; rcases hk with rfl | rfl <;> omega)))
        clear hm4 hw4
        go_wp2_with fail
        go_roundw
        case rel =>
          have r1 := (unhide HUP).succ (by rw [unhide HCA, unhide HZ])
          have r2 : Hm W4 hb gm gs m S L u n c (hal (m : Int) J (P.take (i + 1))) := by rw [unhide HT]; exact unhide HM4
          first | exact ⟨i + 1, by simp, h, r1, r2, unhide HB4⟩ | ((repeat apply Exists.intro); refine ⟨?_, rfl⟩; exact ⟨i + 1, by simp, h, r1, r2, unhide HB4⟩)
        case measure => first | (simp only [intOf]; omega) | (simp [intOf]; omega)
      · have HA : Hid (∀ W, HbAns (m : Int) S L u n c J P w.heap.size (.tuple #[.pointer none, .int .i64 (sCd S L J hh ⟨jb, st, mc, fr, ti, fs⟩), .int .i64 (i : Int)]) W) := hide (by
          intro W
          have hf := fstB_some (by rw [unhide HPL]; exact h) (unhide HUP) (by rw [unhide HCA]; exact hz)
          have e1 := unhide HPC
          have e3 := unhide HPN
          rw [hf] at e1 e3
          simp only [] at e1 e3
          rw [unhide HCA] at e1
          exact ⟨.pointer none, by rw [e1, e3], by rw [e1]; intro h0; exact absurd h0 hz⟩)
        generalize sCd S L J hh ⟨jb, st, mc, fr, ti, fs⟩ = cc at *
        have cz : (cc != 0) = true := by simp [hz]
        clear hz
        go_wp2_with fail
        exact bodyPost_ret (v := .tuple #[.pointer none, .int .i64 cc, .int .i64 (i : Int)]) (by simp [results, Try.results40, go_sem]) rfl ⟨⟨_, rfl, unhide HA _⟩, unhide HB3⟩
    · have iz : decide ((i : Int) < (np : Int)) = false := decide_eq_false (by omega)
      have en : np = i := by omega
      subst en
      have HTK : Hid (P.take np = P) := hide (List.take_of_length_le (by rw [unhide HPL]; exact Nat.le_refl _))
      rw [unhide HTK] at HM
      have HF : Hid (fstB (m : Int) S L J P = none) := hide (fstB_none (by rw [unhide HPL]; exact unhide HUP))
      have HCN := hide (fun g W (hW : Below w.heap.size w W) (hM : Hm W hb gm gs m S L u n c (hal (m : Int) J P)) (hg : iblk W g 3 (marks 0 n)) => cnL_any hb gm gs m S L u p po n c J (hal (m : Int) J P) g W (by omega) hM (unhide HL) (unhide HU _ hW) hg)
      clear hbw
      go_wp2_with fail
      refine (numb_any n _ (by omega)).mono ?_
      rintro e W5 ⟨⟨g5, rfl, hg5, hk5⟩, hb5⟩
      have HB5 := hide (bc (unhide HB) hb5)
      have HM5 := hide ((unhide HM).bel hb5)
      have HK5 := hide hk5
      clear hb5 hg5 hk5
      go_wp2_with fail
      refine (unhide HCN _ _ (unhide HB5) (unhide HM5) (unhide HK5)).mono ?_
      rintro e W6 ⟨rfl, hb6⟩
      have HB6 := hide (bc (unhide HB5) hb6)
      have HM6 := hide ((unhide HM5).bel hb6)
      clear hb6
      cases hany : anyL J (hal (m : Int) J P) with
      | true =>
        have HA : Hid (∀ W, HbAns (m : Int) S L u n c J P w.heap.size (.tuple #[.pointer none, .int .i64 18, .int .i64 (np : Int)]) W) := hide (by
          intro W
          have e1 := unhide HPC
          have e3 := unhide HPN
          rw [unhide HF, hany, if_pos rfl] at e1 e3
          rw [unhide HPL] at e3
          exact ⟨.pointer none, by rw [e1, e3], by rw [e1]; intro h0; cases h0⟩)
        go_wp2_with fail
        exact bodyPost_ret (v := .tuple #[.pointer none, .int .i64 18, .int .i64 (np : Int)]) (by simp [results, Try.results40, go_sem]) rfl ⟨⟨_, rfl, unhide HA _⟩, unhide HB6⟩
      | false =>
        have HA : Hid (HbAns (m : Int) S L u n c J P w.heap.size (.tuple #[.pointer (some ⟨hb, 0, none⟩), .int .i64 0, .int .i64 0]) W6) := hide (by
          have e1 := unhide HPC
          have e3 := unhide HPN
          rw [unhide HF, hany, if_neg (by simp)] at e1 e3
          have hq := unhide HQ1
          refine ⟨.pointer (some ⟨hb, 0, none⟩), by rw [e1, e3], fun _ => ⟨hb, gm, gs, rfl, hq.1, hq.2.1, hq.2.2, ?_⟩⟩
          rw [Int.toNat_natCast]
          exact unhide HM6)
        go_wp2_with fail
        exact bodyPost_ret (v := .tuple #[.pointer (some ⟨hb, 0, none⟩), .int .i64 0, .int .i64 0]) (by simp [results, Try.results40, go_sem]) rfl ⟨⟨_, rfl, unhide HA⟩, unhide HB6⟩
set_option maxHeartbeats 1000000 in
theorem pcP_any (N S L : Int) (u : Option Addr) (p po n c : Nat) (J : List Jb) (pu : Option Addr) (pp ppo np pcap : Nat) (P : List Slt) (w : World) (hl : J.length = n) (hn : n ≤ 9223372036854775807) (hu : Jbs w u p po J) (hpl : P.length = np) (hnp : np ≤ 9223372036854775807) (hp : SlG slc 6 w pu pp ppo P) :
    Calls Try.prog 16 #[.agg #[.int .i64 N, .int .i64 S, .int .i64 L], .slice u n c, .slice pu np pcap] w fun e w' => e = .returned (.tuple #[.int .i64 (pcC N S L J P), .int .i64 (pcN N S L J P)]) ∧ Below w.heap.size w w' := by
  have HB0 := hide (ba (Below.refl w.heap.size w) (.cells #[.int .i64 N, .int .i64 S, .int .i64 L] 27))
  have HC := hide (fun X (hX : Below w.heap.size w X) => hbP_any N S L u p po n c J pu pp ppo np pcap P X hl hn (hu.bel hX) hpl hnp (hp.bel hX))
  clear hu hl hp hpl
  go_enter Try.func16, Try.ntmps16
  go_wp2_with fail
  refine (unhide HC _ (unhide HB0)).mono ?_
  rintro e W1 ⟨⟨v, rfl, v0, rfl, _⟩, hb⟩
  have HB1 := hide (bc (unhide HB0) hb)
  clear hb
  go_wp2_with fail
  exact bodyPost_ret (v := .tuple #[.int .i64 (pcC N S L J P), .int .i64 (pcN N S L J P)]) (by simp [results, Try.results16, go_sem]) rfl ⟨rfl, unhide HB1⟩
end Go.Proofs.Ytbgekppggakdoaa
