/-
  That a row of jobs, each with steps of its own, is written over.
-/
import Derived.Test.YtbgekppggakdoaaJbRows
import Derived.Test.YtbgekppggakdoaaMkText
import Derived.Test.YtbgekppggakdoaaHlE
namespace Go.Proofs.Ytbgekppggakdoaa
open Go.ChangeShapes Go.WideShapes Go.ChangeAt Go.RowKit
set_option linter.unusedVariables false
set_option linter.unusedSimpArgs false

set_option maxHeartbeats 1000000 in
theorem mkText_big (k : Nat) (w : World) (h0 : 0 < k) (h1 : k ≤ 10000000000000) : Calls Try.prog 43 #[.int .i64 (k : Int)] w fun e w' => e = .returned (.string (mkT k)) ∧ Below w.heap.size w w' := by
  have hk : decide ((k : Int) ≤ 0) = false := decide_eq_false (by omega)
  go_enter Try.func43, Try.ntmps43
  go_wp2
  go_loopw [0, 3] (fun z s W => ∃ (j : Nat) (o : ByteArray), z = .int .i64 (j : Int) ∧ s = .string o ∧ j ≤ k ∧ o.size + j ≤ k ∧ digF j j o = digF k k ByteArray.empty ∧ Below w.heap.size w W) (fun z _ _ => (intOf z).toNat)
  case atStart => exact ⟨k, ByteArray.empty, rfl, rfl, Nat.le_refl _, by simp, rfl, Below.refl _ _⟩
  case round =>
    obtain ⟨j, o, rfl, rfl, hj, ho, hd, hw⟩ := hrel
    have HW := hide hw
    have HD := hide hd
    clear hw hd
    by_cases h : 0 < j
    · have j1 : decide ((0 : Int) < (j : Int)) = true := decide_eq_true (by omega)
      have j2 : (0 : Int) < (j : Int) := by omega
      have hcv := conv_one (48 + (j : Int) % 10) (wr.alloc (.cells #[.int .u8 (48 + (j : Int) % 10)] 5)) wr.heap.size (by simp [go_sem])
      have e8 : (⟨#[UInt8.ofNat (48 + (j : Int) % 10).toNat]⟩ : ByteArray) = digB j := by
        unfold digB
        rw [show (48 + (j : Int) % 10).toNat = 48 + j % 10 by omega]
      rw [e8] at hcv
      have sz : (digB j).size = 1 := rfl
      go_wp2_with fail
      go_roundw
      case rel =>
        refine ⟨j / 10, digB j ++ o, by simp, rfl, by omega, ?_, ?_, ba (unhide HW) _⟩
        · rw [ByteArray.size_append, sz]; omega
        · rw [← unhide HD]
          cases j with
          | zero => omega
          | succ j =>
            show _ = digF (j + 1) (j + 1) o
            simp only [digF, if_neg (Nat.succ_ne_zero j)]
            exact digF_fuel _ _ _ _ (by omega) (by omega)
      case measure => simp only [intOf]; omega
    · have j1 : decide ((0 : Int) < (j : Int)) = false := decide_eq_false (by omega)
      have j2 : ¬ (0 : Int) < (j : Int) := by omega
      have ej : j = 0 := by omega
      subst ej
      have e : o = digF k k ByteArray.empty := by have := unhide HD; rwa [digF_zero] at this
      subst e
      go_wp2_with fail
      go_ret
      exact ⟨rfl, unhide HW⟩

set_option maxHeartbeats 1000000 in
theorem stq_mark (u : Option Addr) (p n cu : Nat) (L : List Int) (c : Int) (w : World) (hl : L.length = n * 4) (hn : n ≤ 1048576) (c0 : 0 ≤ c) (c1 : c ≤ 10000000000000)
    (hu : u = some ⟨p, 0, none⟩ ∧ iblk w p 61 L) :
    Calls Try.prog 44 #[.slice u n cu, .int .i64 c] w fun e w' => e = .returned (.int .i64 (c + (n : Int) * 4)) ∧ iblk w' p 61 (marks c (n * 4)) ∧ But p w w' := by
  have HU := hide hu
  have HL := hide hl
  clear hu hl
  go_enter Try.func44, Try.ntmps44
  go_wp2
  go_loopw [1, 5] (fun s t W => ∃ i : Nat, s = .int .i64 (c + (i : Int) * 4) ∧ t = .int .i64 (i : Int) ∧ i ≤ n ∧ iblk W p 61 (marks c (i * 4) ++ L.drop (i * 4)) ∧ But p w W) (fun _ s _ => n - (intOf s).toNat)
  case atStart => exact ⟨0, by simp, rfl, Nat.zero_le _, by simpa [marks] using (unhide HU).2, But.refl _ _⟩
  case round =>
    obtain ⟨i, rfl, rfl, hi, hb, hw⟩ := hrel
    have HB := hide hb
    have HW := hide hw
    clear hb hw
    by_cases h : i < n
    · have i1 : (i : Int) < (n : Int) := by omega
      have i0 : (0 : Int) ≤ (i : Int) := Int.natCast_nonneg _
      have iz : decide ((i : Int) < (n : Int)) = true := decide_eq_true i1
      obtain ⟨rfl, _⟩ := unhide HU
      have pb := unhide HB
      have j0 : i * 4 + 0 < L.length := by rw [unhide HL]; exact mul_lt_of h (by omega)
      have k0 : wr.cell? ⟨p, i * 4, none⟩ = some (.int .i64 (L[i * 4 + 0]'j0)) := pb.cell (marks_drop1 c L (i * 4) 0 j0)
      generalize L[i * 4 + 0]'j0 = x0 at k0
      have j1 : i * 4 + 1 < L.length := by rw [unhide HL]; exact mul_lt_of h (by omega)
      have k1 : wr.cell? ⟨p, i * 4 + 1, none⟩ = some (.int .i64 (L[i * 4 + 1]'j1)) := pb.cell (marks_drop1 c L (i * 4) 1 j1)
      generalize L[i * 4 + 1]'j1 = x1 at k1
      have j2 : i * 4 + 2 < L.length := by rw [unhide HL]; exact mul_lt_of h (by omega)
      have k2 : wr.cell? ⟨p, i * 4 + 2, none⟩ = some (.int .i64 (L[i * 4 + 2]'j2)) := pb.cell (marks_drop1 c L (i * 4) 2 j2)
      generalize L[i * 4 + 2]'j2 = x2 at k2
      have j3 : i * 4 + 3 < L.length := by rw [unhide HL]; exact mul_lt_of h (by omega)
      have k3 : wr.cell? ⟨p, i * 4 + 3, none⟩ = some (.int .i64 (L[i * 4 + 3]'j3)) := pb.cell (marks_drop1 c L (i * 4) 3 j3)
      generalize L[i * 4 + 3]'j3 = x3 at k3
      have fz : ∀ o, wr.frozen? ⟨p, o, none⟩ = false := pb.frozen
      have PB := hide pb
      have J0 := hide j0; have J1 := hide j1; have J2 := hide j2; have J3 := hide j3
      clear pb j0 j1 j2 j3
      go_wp2_with fail
      go_roundw
      case rel =>
        refine ⟨i + 1, by simp only [Value.int.injEq, true_and]; omega, by simp, h, ?_, ?_⟩
        · have h1 := ((((unhide PB).set (i * 4) (c + (i : Int) * 4)).set (i * 4 + 1) (c + (i : Int) * 4 + 1)).set (i * 4 + 2) (c + (i : Int) * 4 + 1 + 1)).set (i * 4 + 3) (c + (i : Int) * 4 + 1 + 1 + 1)
          rw [marks_step c L (i * 4) (unhide J0) _ (by omega), marks_step c L (i * 4 + 1) (unhide J1) _ (by omega), marks_step c L (i * 4 + 2) (unhide J2) _ (by omega), marks_step c L (i * 4 + 3) (unhide J3) _ (by omega)] at h1
          rw [show (i + 1) * 4 = i * 4 + 4 by omega]
          exact h1
        · exact ((((unhide HW).setCell _ _).setCell _ _).setCell _ _).setCell _ _
      case measure => simp only [intOf]; omega
    · have i1 : ¬ (i : Int) < (n : Int) := by omega
      have iz : decide ((i : Int) < (n : Int)) = false := decide_eq_false i1
      have en : i = n := by omega
      subst en
      go_wp2_with fail
      go_ret
      refine ⟨rfl, ?_, unhide HW⟩
      have h1 := unhide HB
      rw [List.drop_eq_nil_of_le (by rw [unhide HL]; omega), List.append_nil] at h1
      exact h1

theorem iblk_len {w : World} {g t : Nat} {L M : List Int} (h : iblk w g t L) (k : iblk w g t M) : L.length = M.length := by
  have e := h.symm.trans k
  simp at e
  have := congrArg List.length e
  simpa using this
set_option maxRecDepth 100000 in
set_option maxHeartbeats 4000000 in
theorem jb_mark (B E g n cu c : Nat) (J : List Jb) (w : World) (hl : J.length = n) (hn : n ≤ 1048576) (c0 : 0 < c) (c1 : c ≤ 1000000) (hv : Jown w B E g J) :
    Calls Try.prog 21 #[.slice (some ⟨g, 0, none⟩) n cu, .int .i64 (c : Int)] w fun e w' => (∃ r : Nat, e = .returned (.int .i64 (r : Int)) ∧ c ≤ r ∧ r ≤ c + n * 4194306) ∧ Mw (fun x => B ≤ x ∧ x < E) w w' := by
  have HL := hide hl
  have HJ := hide (fun j hj => (hv.each j hj).1)
  have HG := hide (fun j hj => (hv.each j hj).2)
  have HA : Hid (B ≤ g ∧ g < E) := hide ⟨hv.ge, hv.lt⟩
  have HV := hide hv.blk
  have HT : Hid (∀ j ∈ J, ∃ M : List Int, M.length = j.sn * 4 ∧ iblk w j.sp 61 M) := hide (fun j hj => ⟨_, by rw [flat4_len, (hv.each j hj).1.len], (hv.each j hj).1.blk⟩)
  clear hl hv
  go_enter Try.func21, Try.ntmps21
  go_wp2
  go_loopw [1, 5] (fun s t W => ∃ (i r : Nat) (L : List Value), s = .int .i64 (r : Int) ∧ t = .int .i64 (i : Int) ∧ i ≤ n ∧ c ≤ r ∧ r ≤ c + i * 4194306 ∧ L.length = n * 3 ∧ (∀ (k : Nat) (j : Jb), J[k]? = some j → L[k * 3 + 2]? = some (.slice j.su j.sn j.sc)) ∧ vb W g 58 L ∧ (∀ j ∈ J, ∃ M : List Int, M.length = j.sn * 4 ∧ iblk W j.sp 61 M) ∧ Mw (fun x => B ≤ x ∧ x < E) w W) (fun _ s _ => n - (intOf s).toNat)
  case atStart => exact ⟨0, c, flatG jc J, rfl, rfl, Nat.zero_le _, Nat.le_refl _, by omega, by rw [flatG_len jc_len, unhide HL], fun k j hj => flatG_at jc_len hj (j := 2) rfl, unhide HV, unhide HT, Mw.refl _ _⟩
  case round =>
    clear HV HT
    obtain ⟨i, r, L, rfl, rfl, hi, r0, r1, hll, hsl, hb, ht, hw⟩ := hrel
    have HB := hide hb
    have HW := hide hw
    have HT := hide ht
    have HSL := hide hsl
    have HLL := hide hll
    clear hb hw ht hsl hll
    by_cases h : i < n
    · have i1 : (i : Int) < (n : Int) := by omega
      have i0 : (0 : Int) ≤ (i : Int) := Int.natCast_nonneg _
      have iz : decide ((i : Int) < (n : Int)) = true := decide_eq_true i1
      obtain ⟨j, hj⟩ := get_some (unhide HL) h
      have K0 := hide (fun W => mkText_big r W (by omega) (by omega))
      generalize mkT r = s0 at *
      have oj := unhide HJ j (List.mem_of_getElem? hj)
      have gne := unhide HG j (List.mem_of_getElem? hj)
      have hsn := oj.most
      have KS : Hid (∀ W M, M.length = j.sn * 4 → iblk W j.sp 61 M → Calls Try.prog 44 #[.slice j.su j.sn j.sc, .int .i64 ((r : Int) + 1 + 1)] W fun e w' => e = .returned (.int .i64 ((r : Int) + 1 + 1 + (j.sn : Int) * 4)) ∧ iblk w' j.sp 61 (marks ((r : Int) + 1 + 1) (j.sn * 4)) ∧ But j.sp W w') := hide (fun W M hM hW => stq_mark j.su j.sp j.sn j.sc M ((r : Int) + 1 + 1) W hM hsn (by omega) (by omega) ⟨oj.su, hW⟩)
      have HSP : Hid (B ≤ j.sp ∧ j.sp < E) := hide ⟨oj.ge, oj.lt⟩
      have HSJ := hide (unhide HSL i j hj)
      have HJM := hide (List.mem_of_getElem? hj)
      have HGN := hide gne
      clear oj gne hj
      generalize hsu : j.su = su at *
      generalize hsn' : j.sn = sn at *
      generalize hsc : j.sc = sc at *
      generalize hsp : j.sp = sp at *
      have HSNE := hide hsn'
      have HSPE := hide hsp
      clear hsu hsn' hsc hsp
      have sn0 : (0 : Int) ≤ (sn : Int) := Int.natCast_nonneg _
      go_wp2_with fail
      refine (unhide K0 _).mono ?_
      rintro e W1 ⟨rfl, hb1⟩
      have pb1 := (unhide HB).bel hb1
      have hi3 : i * 3 + 2 < L.length := by rw [unhide HLL]; omega
      have e0 : W1.cell? ⟨g, i * 3, none⟩ = some (L[i * 3]'(by omega)) := pb1.cell (List.getElem?_eq_getElem _)
      have e1 : W1.cell? ⟨g, i * 3 + 1, none⟩ = some (L[i * 3 + 1]'(by omega)) := pb1.cell (List.getElem?_eq_getElem _)
      have e2 : W1.cell? ⟨g, i * 3 + 2, none⟩ = some (.slice su sn sc) := pb1.cell (unhide HSJ)
      have fz1 : ∀ q, W1.frozen? ⟨g, q, none⟩ = false := pb1.frozen
      generalize L[i * 3]'(by omega) = v0 at e0
      generalize L[i * 3 + 1]'(by omega) = v1 at e1
      have HW1 : Hid (Mw (fun x => B ≤ x ∧ x < E) w W1) := hide ((unhide HW).trans (.ofBel hb1))
      have HT1 : Hid (∀ j ∈ J, ∃ M : List Int, M.length = j.sn * 4 ∧ iblk W1 j.sp 61 M) := hide (fun j hj => by obtain ⟨M, h1, h2⟩ := unhide HT j hj; exact ⟨M, h1, h2.bel hb1⟩)
      have P1 := hide ((pb1.set (i * 3) (.string s0)).set (i * 3 + 1) (.int .i64 ((r : Int) + 1)))
      have HI3 := hide hi3
      clear hb1 pb1 hi3
      go_wp2_with fail
      obtain ⟨M, hM, hMb⟩ := unhide HT1 j (unhide HJM)
      rw [unhide HSNE] at hM
      rw [unhide HSPE] at hMb
      have hMc : iblk ((W1.setCell ⟨g, i * 3, none⟩ (.string s0)).setCell ⟨g, i * 3 + 1, none⟩ (.int .i64 ((r : Int) + 1))) sp 61 M := (Below.heap_setCell _ _ _ _ (unhide HGN)).trans ((Below.heap_setCell _ _ _ _ (unhide HGN)).trans hMb)
      refine (unhide KS _ M hM hMc).mono ?_
      rintro e W2 ⟨rfl, hm2, hb2⟩
      have HM2 := hide hm2
      have HB2 := hide hb2
      have HMC := hide hMc
      have HMM := hide hM
      clear hm2 hb2 hMc hMb hM
      go_wp2_with fail
      go_roundw
      case rel =>
        have hb2 := unhide HB2
        have gne := unhide HGN
        refine ⟨i + 1, r + 2 + sn * 4, (L.set (i * 3) (.string s0)).set (i * 3 + 1) (.int .i64 ((r : Int) + 1)), by simp only [Value.int.injEq, true_and]; omega, by simp, h, by omega, by omega, by rw [List.length_set, List.length_set]; exact unhide HLL, ?_, ?_, ?_, ?_⟩
        · intro k j' hj'
          rw [List.getElem?_set_ne (by omega), List.getElem?_set_ne (by omega)]
          exact unhide HSL k j' hj'
        · exact (hb2.block g (fun e => gne e.symm)).trans (unhide P1)
        · intro j' hj'
          obtain ⟨M', h1, h2⟩ := unhide HT1 j' hj'
          have g2 := unhide HG j' hj'
          have h2' : iblk ((W1.setCell ⟨g, i * 3, none⟩ (.string s0)).setCell ⟨g, i * 3 + 1, none⟩ (.int .i64 ((r : Int) + 1))) j'.sp 61 M' := (Below.heap_setCell _ _ _ _ g2).trans ((Below.heap_setCell _ _ _ _ g2).trans h2)
          by_cases hq : j'.sp = sp
          · rw [hq] at h2' ⊢
            have hle := iblk_len h2' (unhide HMC)
            refine ⟨_, ?_, unhide HM2⟩
            rw [marks_len]
            have := unhide HMM
            omega
          · exact ⟨M', h1, (hb2.block _ hq).trans h2'⟩
        · exact (((unhide HW1).set _ (unhide HA)).set _ (unhide HA)).trans ⟨hb2.os, hb2.tape, hb2.output, Nat.le_of_eq hb2.size, fun q _ hq => hb2.block q (fun e => hq (e ▸ unhide HSP))⟩
      case measure => simp only [intOf]; omega
    · have i1 : ¬ (i : Int) < (n : Int) := by omega
      have iz : decide ((i : Int) < (n : Int)) = false := decide_eq_false i1
      have en : i = n := by omega
      subst en
      go_wp2_with fail
      go_ret
      exact ⟨⟨r, rfl, r0, r1⟩, unhide HW⟩
end Go.Proofs.Ytbgekppggakdoaa
