/-
  The model's PlanCode.
-/
import Derived.Test.YtbgekppggakdoaaPcMath
import Derived.Test.YtbgekppggakdoaaPcA
import Derived.Test.YtbgekppggakdoaaPcR
namespace Go.Proofs.Ytbgekppggakdoaa
open Go.ChangeShapes Go.WideShapes Go.ChangeAt Go.RowKit
set_option linter.unusedVariables false
set_option linter.unusedSimpArgs false

theorem own_at {w : World} {B t k g cap n : Nat} {L : List Value} (h : w.ownsRow B t k (.slice (some ⟨g, 0, none⟩) n cap) n L) {j : Nat} {x : Value} (hx : L[j]? = some x) : w.cell? ⟨g, j, none⟩ = some x := by
  rcases h.2 with ⟨h1, h2⟩ | ⟨g', cap', cur, hv, hB, hh, hn, hm, hs, ht⟩
  · cases h1
  · cases hv
    have h1 : (cur.toList.take (n * k))[j]? = some x := by rw [ht]; exact hx
    simp only [World.cell?]
    rw [hh]
    rw [List.getElem?_take] at h1
    split at h1
    · simpa using h1
    · cases h1
theorem own_lt {w : World} {B t k g cap n : Nat} {L : List Value} (h : w.ownsRow B t k (.slice (some ⟨g, 0, none⟩) n cap) n L) : B ≤ g ∧ g < w.heap.size := own_ge h g rfl
theorem own_ex {w : World} {B t k n : Nat} {v : Value} {L : List Value} (h : w.ownsRow B t k v n L) (hn : n ≠ 0) : ∃ g cap, v = .slice (some ⟨g, 0, none⟩) n cap ∧ n ≤ cap ∧ cap ≤ 9223372036854775807 := by
  obtain ⟨u, cap, hv, h1, h2, h3⟩ := own_form h
  obtain ⟨g, hg, _⟩ := h3 hn
  exact ⟨g, cap, by rw [hv, hg], h1, by unfold maxLen at h2; omega⟩
theorem flatMm_set {l : List Mch} {i : Nat} (hi : i < l.length) (a b d : Int) : flatG mcm (l.set i ⟨b, d, a⟩) = (((flatG mcm l).set (i * 3) (.int .i64 a)).set (i * 3 + 1) (.int .i64 b)).set (i * 3 + 2) (.int .i64 d) := by
  rw [flatG_set mcm_len _ _ _ hi]
  rfl
/-- what stands in the model's memory while it looks at a slot -/
structure Kp (w W : World) (bx xb gv B m cap : Nat) (S L : Int) (x : Slt) (s : Stp) (ms : List Mch) : Prop where
  p : vb W bx 71 [.int .i64 x.jb, .int .i64 x.st, .int .i64 x.mc, .int .i64 x.fr, .int .i64 x.ti, .bool x.fs]
  x : vb W xb 61 [.int .i64 s.m, .int .i64 s.t, .int .i64 s.l, .int .i64 s.e]
  o : W.ownsRow B 73 3 (.slice (some ⟨gv, 0, none⟩) m cap) m (flatG mcm ms)
  s : vb W w.heap.size 27 [.int .i64 (m : Int), .int .i64 S, .int .i64 L]
  b : Below w.heap.size w W
theorem Kp.bel {w W W' : World} {bx xb gv B m cap : Nat} {S L : Int} {x : Slt} {s : Stp} {ms : List Mch} (h : Kp w W bx xb gv B m cap S L x s ms) (hb : Below W.heap.size W W') : Kp w W' bx xb gv B m cap S L x s ms := ⟨h.p.bel hb, h.x.bel hb, own_bel h.o hb, h.s.bel hb, bc h.b hb⟩
theorem Kp.drew {w W : World} {bx xb gv B m cap : Nat} {S L : Int} {x : Slt} {s : Stp} {ms : List Mch} (h : Kp w W bx xb gv B m cap S L x s ms) : Kp w W.drew bx xb gv B m cap S L x s ms := h.bel (Below.refl _ _).drew
theorem Kp.dn {w W : World} {bx xb gv B m cap : Nat} {S L : Int} {x : Slt} {s : Stp} {ms : List Mch} (h : Kp w W bx xb gv B m cap S L x s ms) (q : Nat) : Kp w (W.drewN q) bx xb gv B m cap S L x s ms := h.bel (drewBel W q)
/-- what the model says of slot x behind the slots ahead of it -/
theorem sCd_mod {N S L : Int} {J : List Jb} {P : List Slt} {h : Hl} (H : Hv N S L J P h) {x : Slt} {s : Stp} (hs : stOf J x = some s) :
    ((∃ y ∈ P, y.jb = x.jb ∧ y.st = x.st) → sCd S L J h x = 7) ∧
    ((∀ y ∈ P, ¬ (y.jb = x.jb ∧ y.st = x.st)) →
      (x.fr < 0 ∨ 1000000000 < x.fr → sCd S L J h x = 5) ∧
      (0 ≤ x.fr ∧ x.fr ≤ 1000000000 →
        (ahd x P = false ∨ x.fr < (mAt h x.mc).fr → sCd S L J h x = 13) ∧
        (ahd x P = true ∧ (mAt h x.mc).fr ≤ x.fr →
          (frsh L (mAt h x.mc) s ≠ x.fs → sCd S L J h x = 16) ∧
          (frsh L (mAt h x.mc) s = x.fs → (x.ti ≠ x.fr + lon S x.fs s → sCd S L J h x = 19) ∧ (x.ti = x.fr + lon S x.fs s → sCd S L J h x = 0))))) := by
  obtain ⟨a1, a2, hsm, j, hj, hsj⟩ := stOf_some hs
  have hjl : x.jb.toNat < J.length := (List.getElem?_eq_some_iff.1 hj).1
  have hsee := seen_iff H (x := x) ⟨a1, by omega⟩ a2
  have e : sCd S L J h x = if x.st < (gAt h x.jb).1 then 7 else if x.fr < 0 ∨ 1000000000 < x.fr then 5 else if ((gAt h x.jb).1 : Int) < x.st then 13 else if x.fr < max (gAt h x.jb).2 (mAt h x.mc).fr then 13 else if x.fs ≠ frsh L (mAt h x.mc) s then 16 else if x.ti ≠ x.fr + lon S x.fs s then 19 else 0 := by unfold sCd; rw [hs]
  rw [e]
  refine ⟨fun hy => by rw [if_pos (hsee.1 hy)], fun hno => ?_⟩
  have hge : ¬ x.st < ((gAt h x.jb).1 : Int) := fun hlt => by
    obtain ⟨y, hy, h1⟩ := hsee.2 hlt
    exact hno y hy h1
  rw [if_neg hge]
  refine ⟨fun hr => by rw [if_pos hr], fun hr => ?_⟩
  rw [if_neg (by omega)]
  have ha := ahd_iff H hj a1 a2 (by omega) hr.1
  refine ⟨fun hb => ?_, fun hb => ?_⟩
  · by_cases e1 : ((gAt h x.jb).1 : Int) < x.st
    · rw [if_pos e1]
    · rw [if_neg e1]
      rcases hb with hb | hb
      · rw [ha, decide_eq_true (by omega), Bool.true_and, decide_eq_false_iff_not] at hb
        rw [if_pos (by omega)]
      · rw [if_pos (by omega)]
  · rw [ha, Bool.and_eq_true, decide_eq_true_eq, decide_eq_true_eq] at hb
    rw [if_neg (by omega), if_neg (by omega)]
    refine ⟨fun hf => by rw [if_pos (fun e => hf e.symm)], fun hf => ?_⟩
    rw [if_neg (by rw [hf]; simp)]
    exact ⟨fun ht => by rw [if_pos ht], fun ht => by rw [if_neg (by simp [ht])]⟩
set_option maxRecDepth 100000 in
set_option maxHeartbeats 32000000 in
theorem pcM_any (N S L : Int) (u : Option Addr) (p po n c : Nat) (J : List Jb) (pu : Option Addr) (pp ppo np pcap : Nat) (P : List Slt) (w : World) (hl : J.length = n) (hn : n ≤ 9223372036854775807) (hu : Jbs w u p po J) (hpl : P.length = np) (hnp : np ≤ 9223372036854775807) (hp : SlG slc 6 w pu pp ppo P) :
    Calls Try.prog 14 #[.agg #[.int .i64 N, .int .i64 S, .int .i64 L], .slice u n c, .slice pu np pcap] w fun e w' => e = .returned (.tuple #[.int .i64 (pcC N S L J P), .int .i64 (pcN N S L J P)]) ∧ Below w.heap.size w w' := by
  have HB0 := hide (ba (Below.refl w.heap.size w) (.cells #[.int .i64 N, .int .i64 S, .int .i64 L] 27))
  have HV := hide (vb_new w 27 [.int .i64 N, .int .i64 S, .int .i64 L] w.heap.size rfl)
  have HU := hide (fun X (hX : Below w.heap.size w X) => hu.bel hX)
  have HPS := hide (fun X (hX : Below w.heap.size w X) => hp.bel hX)
  have HC := hide (fun X (hX : Below w.heap.size w X) => shM_any N S L u p po n c J X hl hn (hu.bel hX))
  have n0 : (0 : Int) ≤ (n : Int) := Int.natCast_nonneg _
  have np0 : (0 : Int) ≤ (np : Int) := Int.natCast_nonneg _
  by_cases g0 : 4096 < n
  · have t0 : decide ((4096 : Int) < (n : Int)) = true := decide_eq_true (by omega)
    have e1 : pcC N S L J P = 2 := by unfold pcC; rw [if_pos (by omega)]
    have e2 : pcN N S L J P = 0 := by unfold pcN; rw [if_pos (by omega)]
    rw [e1, e2]
    clear hu hl hp hpl e1 e2
    go_enter Try.func14, Try.ntmps14
    go_wp2_with fail
    exact bodyPost_ret (v := .tuple #[.int .i64 2, .int .i64 0]) (by simp [results, Try.results14, go_sem]) rfl ⟨rfl, unhide HB0⟩
  have t0 : decide ((4096 : Int) < (n : Int)) = false := decide_eq_false (by omega)
  by_cases g1 : 4096 < np
  · have t1 : decide ((4096 : Int) < (np : Int)) = true := decide_eq_true (by omega)
    have e1 : pcC N S L J P = 2 := by unfold pcC; rw [if_pos (by omega)]
    have e2 : pcN N S L J P = 0 := by unfold pcN; rw [if_pos (by omega)]
    rw [e1, e2]
    clear hu hl hp hpl e1 e2
    go_enter Try.func14, Try.ntmps14
    go_wp2_with fail
    exact bodyPost_ret (v := .tuple #[.int .i64 2, .int .i64 0]) (by simp [results, Try.results14, go_sem]) rfl ⟨rfl, unhide HB0⟩
  have t1 : decide ((4096 : Int) < (np : Int)) = false := decide_eq_false (by omega)
  cases hsh : shOk N S L J with
  | false =>
    have e1 : pcC N S L J P = 1 := by unfold pcC; rw [if_neg (by omega), hsh, if_neg (by simp)]
    have e2 : pcN N S L J P = 0 := by unfold pcN; rw [if_neg (by omega), hsh, if_neg (by simp)]
    rw [e1, e2]
    rw [hsh] at HC
    clear hu hl hp hpl e1 e2 hsh
    go_enter Try.func14, Try.ntmps14
    go_wp2_with fail
    refine (unhide HC _ (unhide HB0)).mono ?_
    rintro e W1 ⟨rfl, hb⟩
    have HB1 := hide (bc (unhide HB0) hb)
    clear hb
    go_wp2_with fail
    exact bodyPost_ret (v := .tuple #[.int .i64 1, .int .i64 0]) (by simp [results, Try.results14, go_sem]) rfl ⟨rfl, unhide HB1⟩
  | true =>
  rw [hsh] at HC
  obtain ⟨⟨N1, N2⟩, ⟨S1, S2⟩, ⟨L1, L2⟩, hJ20, hJok, hnd⟩ := shOk_iff.1 hsh
  have HPC : Hid (pcC N S L J P = match fstB N S L J P with | some i => cAt N S L J P i | none => if anyL J (hal N J P) then 18 else 0) := hide (by unfold pcC; rw [if_neg (by omega), if_pos hsh]; rfl)
  have HPN : Hid (pcN N S L J P = match fstB N S L J P with | some i => (i : Int) | none => if anyL J (hal N J P) then (P.length : Int) else 0) := hide (by unfold pcN; rw [if_neg (by omega), if_pos hsh]; rfl)
  obtain ⟨m, rfl⟩ := Int.eq_ofNat_of_zero_le (show 0 ≤ N by omega)
  have HHV := hide (fun i (hi : i ≤ P.length) (h : Up (m : Int) S L J P i) => Hv.up N1 ⟨S1, S2⟩ (by omega) hJok i hi h)
  have HL := hide hl
  have HPL := hide hpl
  have HJ := hide hJok
  have n20 : n ≤ 20 := by rw [← hl]; exact hJ20
  have m16 : 1 ≤ m ∧ m ≤ 6 := by omega
  have HBAD : Hid (∀ (i : Nat) (x : Slt) (cc : Int), i < np → P[i]? = some x → Up (m : Int) S L J P i → sCd S L J (hal (m : Int) J (P.take i)) x = cc → cc ≠ 0 → pcC (m : Int) S L J P = cc ∧ pcN (m : Int) S L J P = (i : Int)) := hide (by
    intro i x cc hi hx hup hc hne
    have hca := cAt_some (N := (m : Int)) (S := S) (L := L) (J := J) hx
    have hf := fstB_some (by rw [hpl]; exact hi) hup (by rw [hca, hc]; exact hne)
    have e1 := unhide HPC
    have e3 := unhide HPN
    rw [hf] at e1 e3
    simp only [] at e1 e3
    rw [hca, hc] at e1
    exact ⟨e1, e3⟩)
  clear hu hl hp hpl hsh hnd hJok
  go_enter Try.func14, Try.ntmps14
  go_wp2_with fail
  refine (unhide HC _ (unhide HB0)).mono ?_
  rintro e W1 ⟨rfl, hb⟩
  have v1 := (unhide HV).bel hb
  have k0 := v1.cell (m := 0) rfl
  have HB1 := hide (bc (unhide HB0) hb)
  have HV1 := hide v1
  clear hb v1
  go_wp2_with fail
  refine (macs_any m m16.1 m16.2 _).mono ?_
  rintro e W2 ⟨⟨v, rfl, how⟩, hb2⟩
  obtain ⟨gv, cap, rfl, hcap, hcap2⟩ := own_ex how (by omega)
  have hgv := own_lt how
  have HOW := hide how
  have HV2 := hide ((unhide HV1).bel hb2)
  have hvl := (unhide HV1).lt
  have HB2 := hide (bc (unhide HB1) hb2)
  have HGV : Hid (w.heap.size < gv) := hide (by omega)
  generalize hB : W1.heap.size = B at *
  clear hb2 how k0 hB hgv hvl
  go_wp2_with fail
  go_loopw [9, 10, 11, 12, 13, 14, 15, 16] (fun s _ _ _ _ _ _ _ W => ∃ i : Nat, s = .int .i64 (i : Int) ∧ i ≤ np ∧ Up (m : Int) S L J P i ∧ W.ownsRow B 73 3 (.slice (some ⟨gv, 0, none⟩) m cap) m (flatG mcm (hal (m : Int) J (P.take i)).ms) ∧ vb W w.heap.size 27 [.int .i64 (m : Int), .int .i64 S, .int .i64 L] ∧ Below w.heap.size w W) (fun s _ _ _ _ _ _ _ _ => np - (intOf s).toNat)
  case atStart => exact ⟨0, rfl, Nat.zero_le _, fun k hk => absurd hk (by omega), by simpa [hal, h0] using unhide HOW, unhide HV2, unhide HB2⟩
  case round =>
    obtain ⟨i, rfl, hi, hup, how, hvs, hbw⟩ := hrel
    have HUP := hide hup
    have HOW := hide how
    have HVS := hide hvs
    have HB := hide hbw
    have i0 : (0 : Int) ≤ (i : Int) := Int.natCast_nonneg _
    clear hup
    by_cases h : i < np
    rotate_left
    · have iz : decide ((i : Int) < (np : Int)) = false := decide_eq_false (by omega)
      have iq : ¬ ((i : Int) < (np : Int)) := by omega
      have en : np = i := by omega
      have HTK : Hid (P.take i = P) := hide (List.take_of_length_le (by rw [unhide HPL]; omega))
      have HF : Hid (fstB (m : Int) S L J P = none) := hide (fstB_none (by rw [unhide HPL, en]; exact unhide HUP))
      have HAN : Hid (anyL J (hal (m : Int) J P) = decide (np < steps J)) := hide (by
        have := unhide HHV i (by rw [unhide HPL]; omega) (unhide HUP)
        rw [unhide HTK] at this
        rw [anyL_iff this, unhide HPL])
      have HS160 : Hid (∀ k, k ≤ n → steps (J.take k) ≤ 8 * k) := hide (by
        intro k
        induction k with
        | zero => intro _; simp [steps]
        | succ k ih =>
          intro hk
          have hx : J[k]? = some (J[k]'(by rw [unhide HL]; omega)) := List.getElem?_eq_getElem _
          have := ih (by omega)
          have h8 := jbOk_len (unhide HJ _ (List.mem_of_getElem? hx))
          rw [steps_take hx]
          omega)
      clear how hvs en
      go_wp2_with fail
      go_loopw [17, 18] (fun z s W => ∃ k : Nat, z = .int .i64 ((steps (J.take k) : Nat) : Int) ∧ s = .int .i64 (k : Int) ∧ k ≤ n ∧ W = wr) (fun _ s _ => n - (intOf s).toNat)
      case atStart => exact ⟨0, rfl, rfl, Nat.zero_le _, rfl⟩
      case round =>
        obtain ⟨k, rfl, rfl, hk, rfl⟩ := hrel
        have k0 : (0 : Int) ≤ (k : Int) := Int.natCast_nonneg _
        by_cases hkn : k < n
        · have kz : decide ((k : Int) < (n : Int)) = true := decide_eq_true (by omega)
          have k1 : (k : Int) < (n : Int) := by omega
          obtain ⟨j, hj⟩ := get_some (unhide HL) hkn
          obtain ⟨rfl, pw, _, _, kk2⟩ := (unhide HU _ hbw).at hj
          have hjo := (unhide HU _ hbw).each j (List.mem_of_getElem? hj)
          have HST : Hid (steps (J.take (k + 1)) = steps (J.take k) + j.sn) := hide (by rw [steps_take hj, hjo.len])
          have hb8 := unhide HS160 k hk
          have hb9 := unhide HS160 (k + 1) (by omega)
          rw [unhide HST] at hb9
          generalize steps (J.take k) = sk at *
          have wq : IntKind.i64.wrap ((sk : Int) + (j.sn : Int)) = ((sk + j.sn : Nat) : Int) := by rw [wrap_i (by omega) (by omega)]; omega
          clear hj hjo hbw
          go_wp2_with fail
          go_roundw
          case rel => exact ⟨k + 1, by rw [unhide HST]; simp, by simp, hkn, by first | rfl | trivial⟩
          case measure => first | (simp only [intOf]; omega) | (simp [intOf]; omega)
        · have kz : decide ((k : Int) < (n : Int)) = false := decide_eq_false (by omega)
          have kq : ¬ ((k : Int) < (n : Int)) := by omega
          have HTJ : Hid (J.take k = J) := hide (List.take_of_length_le (by rw [unhide HL]; omega))
          rw [unhide HTJ]
          clear hbw
          by_cases g9 : np < steps J
          · have t9 : decide ((np : Int) < ((steps J : Nat) : Int)) = true := decide_eq_true (by omega)
            have t9' : (np : Int) < ((steps J : Nat) : Int) := by omega
            have HE : Hid (pcC (m : Int) S L J P = 18 ∧ pcN (m : Int) S L J P = (np : Int)) := hide (by
              have e1 := unhide HPC
              have e3 := unhide HPN
              rw [unhide HF, unhide HAN, decide_eq_true g9, if_pos rfl] at e1 e3
              rw [unhide HPL] at e3
              exact ⟨e1, e3⟩)
            go_wp2_with fail
            exact bodyPost_ret (v := .tuple #[.int .i64 18, .int .i64 (np : Int)]) (by simp [results, Try.results14, go_sem]) rfl ⟨by rw [(unhide HE).1, (unhide HE).2], unhide HB⟩
          · have t9 : decide ((np : Int) < ((steps J : Nat) : Int)) = false := decide_eq_false (by omega)
            have t9' : ¬ (np : Int) < ((steps J : Nat) : Int) := by omega
            have HE : Hid (pcC (m : Int) S L J P = 0 ∧ pcN (m : Int) S L J P = 0) := hide (by
              have e1 := unhide HPC
              have e3 := unhide HPN
              rw [unhide HF, unhide HAN, decide_eq_false g9, if_neg (by simp)] at e1 e3
              exact ⟨e1, e3⟩)
            go_wp2_with fail
            exact bodyPost_ret (v := .tuple #[.int .i64 0, .int .i64 0]) (by simp [results, Try.results14, go_sem]) rfl ⟨by rw [(unhide HE).1, (unhide HE).2], unhide HB⟩
    have i1 : (i : Int) < (np : Int) := by omega
    have iz : decide ((i : Int) < (np : Int)) = true := decide_eq_true i1
    obtain ⟨x, hx⟩ := get_some (unhide HPL) h
    obtain ⟨rfl, ppw, z0, z1, z2, z3, z4, z5⟩ := (unhide HPS _ hbw).sat6 hx
    have hv := unhide HHV i (by rw [unhide HPL]; omega) (unhide HUP)
    have HV9 := hide hv
    have HX := hide hx
    have HT := hide (hal_take (m : Int) J hx)
    have HBD := hide (fun cc (hc : sCd S L J (hal (m : Int) J (P.take i)) x = cc) (hne : cc ≠ 0) => unhide HBAD i x cc h hx (unhide HUP) hc hne)
    have HCA : Hid (cAt (m : Int) S L J P i = sCd S L J (hal (m : Int) J (P.take i)) x) := hide (cAt_some hx)
    generalize hal (m : Int) J (P.take i) = hh at *
    have HBA := hide (ba (unhide HB) (.cells #[.int .i64 x.jb, .int .i64 x.st, .int .i64 x.mc, .int .i64 x.fr, .int .i64 x.ti, .bool x.fs] 71))
    have hva := vb_new wr 71 [.int .i64 x.jb, .int .i64 x.st, .int .i64 x.mc, .int .i64 x.fr, .int .i64 x.ti, .bool x.fs] wr.heap.size rfl
    have HVA := hide hva
    have HOA := hide (own_bel how (ba (Below.refl _ _) (.cells #[.int .i64 x.jb, .int .i64 x.st, .int .i64 x.mc, .int .i64 x.fr, .int .i64 x.ti, .bool x.fs] 71)))
    have HSA := hide (hvs.bel (ba (Below.refl _ _) (.cells #[.int .i64 x.jb, .int .i64 x.st, .int .i64 x.mc, .int .i64 x.fr, .int .i64 x.ti, .bool x.fs] 71)))
    have HBW := hide (ba (Below.refl wr.heap.size wr) (.cells #[.int .i64 x.jb, .int .i64 x.st, .int .i64 x.mc, .int .i64 x.fr, .int .i64 x.ti, .bool x.fs] 71))
    go_wp2_with fail
    have b0 := hva.cell (m := 0) rfl
    have b1 := hva.cell (m := 1) rfl
    have b2 := hva.cell (m := 2) rfl
    have b3 := hva.cell (m := 3) rfl
    have b4 := hva.cell (m := 4) rfl
    have b5 := hva.cell (m := 5) rfl
    have bl := hva.lt
    clear hx hbw hv how hvs hva z0 z1 z2 z3 z4 z5
    have HU1 := hide (unhide HU _ (unhide HBA))
    generalize wr.alloc (.cells #[.int .i64 x.jb, .int .i64 x.st, .int .i64 x.mc, .int .i64 x.fr, .int .i64 x.ti, .bool x.fs] 71) = WA at *
    generalize wr.heap.size = bx at *
    by_cases g2 : x.jb < 0
    · have t2 : decide (x.jb < 0) = true := decide_eq_true g2
      have HF := hide (unhide HBD 8 (by unfold sCd; rw [stOf_jb (.inl g2)]) (by decide))
      go_quiet (fail)
      go_wp2_with fail
      exact bodyPost_ret (v := .tuple #[.int .i64 8, .int .i64 (i : Int)]) (by simp [results, Try.results14, go_sem]) rfl ⟨by rw [(unhide HF).1, (unhide HF).2], bel_dn' (unhide HBA) _⟩
    have t2 : decide (x.jb < 0) = false := decide_eq_false g2
    by_cases g3 : (n : Int) ≤ x.jb
    · have t3 : decide ((n : Int) ≤ x.jb) = true := decide_eq_true g3
      have HF := hide (unhide HBD 8 (by unfold sCd; rw [stOf_jb (.inr (by rw [unhide HL]; exact g3))]) (by decide))
      go_quiet (fail)
      go_wp2_with fail
      exact bodyPost_ret (v := .tuple #[.int .i64 8, .int .i64 (i : Int)]) (by simp [results, Try.results14, go_sem]) rfl ⟨by rw [(unhide HF).1, (unhide HF).2], bel_dn' (unhide HBA) _⟩
    have t3 : decide ((n : Int) ≤ x.jb) = false := decide_eq_false g3
    by_cases g4 : x.st < 0
    · have t4 : decide (x.st < 0) = true := decide_eq_true g4
      have HF := hide (unhide HBD 8 (by
        unfold sCd
        cases hs : stOf J x with
        | none => rfl
        | some s => have := (stOf_some hs).2.1; omega) (by decide))
      go_quiet (fail)
      go_wp2_with fail
      exact bodyPost_ret (v := .tuple #[.int .i64 8, .int .i64 (i : Int)]) (by simp [results, Try.results14, go_sem]) rfl ⟨by rw [(unhide HF).1, (unhide HF).2], bel_dn' (unhide HBA) _⟩
    have t4 : decide (x.st < 0) = false := decide_eq_false g4
    obtain ⟨jb, st, mc, fr, ti, fs⟩ := x
    simp only [] at *
    obtain ⟨q, rfl⟩ := Int.eq_ofNat_of_zero_le (show 0 ≤ jb by omega)
    obtain ⟨k, rfl⟩ := Int.eq_ofNat_of_zero_le (show 0 ≤ st by omega)
    have q1 : (q : Int) < (n : Int) := by omega
    obtain ⟨j, hj⟩ := get_some (unhide HL) (show q < n by omega)
    obtain ⟨rfl, pw, _, _, kk2⟩ := (unhide HU1).at hj
    have hjo := (unhide HU1).each j (List.mem_of_getElem? hj)
    have HJJ := hide hj
    have HJO := hide hjo
    have s0 : (0 : Int) ≤ (j.sn : Int) := Int.natCast_nonneg _
    have hjk := unhide HJ j (List.mem_of_getElem? hj)
    have h8 := jbOk_len hjk
    rw [hjo.len] at h8
    have HJK := hide hjk
    clear hj hjo hjk
    by_cases g5 : (j.sn : Int) ≤ (k : Int)
    · have t5 : decide ((j.sn : Int) ≤ (k : Int)) = true := decide_eq_true g5
      have HF := hide (unhide HBD 8 (by unfold sCd; rw [stOf_st (j := j) (by simpa using unhide HJJ) (.inr (by rw [(unhide HJO).len]; exact g5))]) (by decide))
      go_quiet (fail)
      go_wp2_with fail
      exact bodyPost_ret (v := .tuple #[.int .i64 8, .int .i64 (i : Int)]) (by simp [results, Try.results14, go_sem]) rfl ⟨by rw [(unhide HF).1, (unhide HF).2], bel_dn' (unhide HBA) _⟩
    have t5 : decide ((j.sn : Int) ≤ (k : Int)) = false := decide_eq_false g5
    have k1 : (k : Int) < (j.sn : Int) := by omega
    obtain ⟨s, hs⟩ := get_some (unhide HJO).len (show k < j.sn by omega)
    obtain ⟨hsu, pw2, y0, y1, y2, y3⟩ := (unhide HJO).at hs
    rw [hsu] at kk2
    obtain ⟨a1, a2, a3, a4, a5, a6, a7, a8⟩ := jbOk_st (unhide HJK) (List.mem_of_getElem? hs)
    have HS := hide hs
    clear hs hsu
    by_cases g6 : s.m = mc
    rotate_left
    · have t6 : (s.m != mc) = true := by simp [g6]
      have HF := hide (unhide HBD 8 (by unfold sCd; rw [stOf_mc (j := j) (by simpa using unhide HJJ) (by simpa using unhide HS) g6]) (by decide))
      clear g6
      go_quiet (fail)
      go_wp2_with fail
      exact bodyPost_ret (v := .tuple #[.int .i64 8, .int .i64 (i : Int)]) (by simp [results, Try.results14, go_sem]) rfl ⟨by rw [(unhide HF).1, (unhide HF).2], bel_dn' (unhide HBA) _⟩
    subst g6
    have t6 : (s.m != s.m) = false := by simp
    have HSO : Hid (stOf J ⟨(q : Int), (k : Int), s.m, fr, ti, fs⟩ = some s) := hide (stOf_mk (j := j) (by simp) (by simp) (by simpa using unhide HJJ) (by simpa using unhide HS) rfl)
    have HMOD := hide (sCd_mod (unhide HV9) (unhide HSO))
    obtain ⟨y, hy⟩ := get_some (unhide HV9).ml (show s.m.toNat < (m : Int).toNat by omega)
    have emA : mAt hh s.m = y := getD_some hy
    have hyk := (unhide HV9).msk y (List.mem_of_getElem? hy)
    rw [emA] at HMOD
    have HMA := hide emA
    have m0 := own_at (unhide HOA) (flatG_at mcm_len hy (j := 0) rfl)
    have m1 := own_at (unhide HOA) (flatG_at mcm_len hy (j := 1) rfl)
    have m2 := own_at (unhide HOA) (flatG_at mcm_len hy (j := 2) rfl)
    have ol := (own_lt (unhide HOA)).2
    have HY := hide hy
    have hsv := (unhide HSA).cell (m := 2) rfl
    have hsv1 := (unhide HSA).cell (m := 1) rfl
    have svl := (unhide HSA).lt
    clear hy emA
    obtain ⟨sm, sti, sl, se⟩ := s
    simp only [Nat.add_zero] at *
    obtain ⟨mm, rfl⟩ := Int.eq_ofNat_of_zero_le a1
    simp only [Int.toNat_natCast] at *
    have mm1 : (mm : Int) < (m : Int) := by omega
    have mmn : mm < m := by omega
    go_quiet (fail)
    have b0 : (WA.drewN nq).cell? _ = _ := b0
    have b1 : (WA.drewN nq).cell? _ = _ := b1
    have b2 : (WA.drewN nq).cell? _ = _ := b2
    have b3 : (WA.drewN nq).cell? _ = _ := b3
    have b4 : (WA.drewN nq).cell? _ = _ := b4
    have b5 : (WA.drewN nq).cell? _ = _ := b5
    have kk2 : (WA.drewN nq).cell? _ = _ := kk2
    have y0 : (WA.drewN nq).cell? _ = _ := y0
    have y1 : (WA.drewN nq).cell? _ = _ := y1
    have y2 : (WA.drewN nq).cell? _ = _ := y2
    have y3 : (WA.drewN nq).cell? _ = _ := y3
    have bl : _ < (WA.drewN nq).heap.size := bl
    have pw : _ < (WA.drewN nq).heap.size := pw
    have pw2 : _ < (WA.drewN nq).heap.size := pw2
    have HBA := hide (bel_dn' (unhide HBA) nq)
    have HVA := hide ((unhide HVA).bel (drewBel WA nq))
    have HOA := hide (own_bel (unhide HOA) (drewBel WA nq))
    have HSA := hide ((unhide HSA).bel (drewBel WA nq))
    clear m0 m1 m2 hsv hsv1 ol svl
    generalize WA.drewN nq = WD at *
    go_wp2_with fail
    go_region
    have HBE := hide (ba (unhide HBA) (.cells #[.int .i64 (mm : Int), .int .i64 sti, .int .i64 sl, .int .i64 se] 61))
    have HVE := hide ((unhide HVA).bel (ba (Below.refl _ _) (.cells #[.int .i64 (mm : Int), .int .i64 sti, .int .i64 sl, .int .i64 se] 61)))
    have HOE := hide (own_bel (unhide HOA) (ba (Below.refl _ _) (.cells #[.int .i64 (mm : Int), .int .i64 sti, .int .i64 sl, .int .i64 se] 61)))
    have HSE := hide ((unhide HSA).bel (ba (Below.refl _ _) (.cells #[.int .i64 (mm : Int), .int .i64 sti, .int .i64 sl, .int .i64 se] 61)))
    have HXE := hide (vb_new WD 61 [.int .i64 (mm : Int), .int .i64 sti, .int .i64 sl, .int .i64 se] WD.heap.size rfl)
    have HK : Hid (Kp w (WD.alloc (.cells #[.int .i64 (mm : Int), .int .i64 sti, .int .i64 sl, .int .i64 se] 61)).drew bx WD.heap.size gv B m cap S L ⟨(q : Int), (k : Int), (mm : Int), fr, ti, fs⟩ ⟨(mm : Int), sti, sl, se⟩ hh.ms) := hide (Kp.drew ⟨unhide HVE, unhide HXE, unhide HOE, unhide HSE, unhide HBE⟩)
    clear HBE HVE HOE HSE HXE HBA HVA HOA HSA b0 b1 b2 b3 b4 b5 kk2 y0 y1 y2 y3 bl pw pw2
    generalize WD.heap.size = xb at *
    generalize (WD.alloc (.cells #[.int .i64 (mm : Int), .int .i64 sti, .int .i64 sl, .int .i64 se] 61)).drew = WE at *
    have b1 := (unhide HK).p.cell (m := 1) rfl
    have b2 := (unhide HK).p.cell (m := 2) rfl
    have b3 := (unhide HK).p.cell (m := 3) rfl
    have bl := (unhide HK).p.lt
    have m0 := own_at (unhide HK).o (flatG_at mcm_len (unhide HY) (j := 0) rfl)
    simp only [Nat.add_zero] at m0
    have ol := (own_lt (unhide HK).o).2
    have wk1 : IntKind.i64.wrap ((k : Int) - 1) = (k : Int) - 1 := wrap_i (by omega) (by omega)
    go_wp2_with fail
    go_quiet (fail)
    have HK := hide ((unhide HK).dn nq)
    clear b1 b2 b3 bl m0 ol
    generalize WE.drewN nq = WF at *
    clear nq
    go_wp2_with fail
    go_loopw [12, 14] (fun b s W => ∃ t : Nat, b = .bool (ahd ⟨(q : Int), (k : Int), (mm : Int), fr, ti, fs⟩ (P.take t)) ∧ s = .int .i64 (t : Int) ∧ t ≤ i ∧ (∀ y ∈ P.take t, ¬ (y.jb = (q : Int) ∧ y.st = (k : Int))) ∧ Kp w W bx xb gv B m cap S L ⟨(q : Int), (k : Int), (mm : Int), fr, ti, fs⟩ ⟨(mm : Int), sti, sl, se⟩ hh.ms) (fun _ s _ => i - (intOf s).toNat)
    case atStart =>
      have ha0 : ((k : Int) == 0) = ahd ⟨(q : Int), (k : Int), (mm : Int), fr, ti, fs⟩ (P.take 0) := by rw [List.take_zero, ahd_nil, Bool.eq_iff_iff]; simp
      exact ⟨0, by rw [← ha0], rfl, Nat.zero_le _, by simp, unhide HK⟩
    case round =>
      obtain ⟨t, rfl, rfl, ht, hno, hk⟩ := hrel
      have HNO := hide hno
      have HK2 := hide hk
      have tt0 : (0 : Int) ≤ (t : Int) := Int.natCast_nonneg _
      clear hno HK
      by_cases hti : t < i
      · have tz : decide ((t : Int) < (i : Int)) = true := decide_eq_true (by omega)
        have tn : (t : Int) < (np : Int) := by omega
        obtain ⟨y, hy⟩ := get_some (unhide HPL) (show t < np by omega)
        obtain ⟨_, yl, c0, c1, _, _, c4, _⟩ := (unhide HPS _ hk.b).sat6 hy
        have b0 := hk.p.cell (m := 0) rfl
        have b1 := hk.p.cell (m := 1) rfl
        have b3 := hk.p.cell (m := 3) rfl
        have bl := hk.p.lt
        have HYY := hide hy
        have HAT := hide (ahd_take (x := ⟨(q : Int), (k : Int), (mm : Int), fr, ti, fs⟩) hy)
        have HNX : Hid (¬ (y.jb = (q : Int) ∧ y.st = (k : Int)) → ∀ z ∈ P.take (t + 1), ¬ (z.jb = (q : Int) ∧ z.st = (k : Int))) := hide (by
          intro hne z hz
          rw [List.take_add_one, hy] at hz
          rcases List.mem_append.1 hz with h1 | h1
          · exact unhide HNO z h1
          · simp at h1; subst h1; exact hne)
        clear hk hy
        obtain ⟨yj, ys, ym, yf, yt, yb⟩ := y
        simp only [] at *
        by_cases e1 : yj = (q : Int)
        rotate_left
        · have r1 : (yj != (q : Int)) = true := by simp [e1]
          have HE1 := hide e1
          have HA1 : Hid (ahd ⟨(q : Int), (k : Int), (mm : Int), fr, ti, fs⟩ (P.take (t + 1)) = ahd ⟨(q : Int), (k : Int), (mm : Int), fr, ti, fs⟩ (P.take t)) := hide (by rw [unhide HAT, if_neg (fun hh' => e1 hh'.1)])
          clear e1
          go_wp2_with fail
          go_quiet (fail)
          go_wp2_with fail
          go_roundw
          case rel =>
            refine ⟨t + 1, ?_, by simp, hti, unhide HNX (fun hh' => unhide HE1 hh'.1), (unhide HK2).dn _⟩
            rw [unhide HA1]
          case measure => first | (simp only [intOf]; omega) | (simp [intOf]; omega)
        subst e1
        have r1 : ((q : Int) != (q : Int)) = false := by simp
        by_cases e2 : ys = (k : Int)
        · subst e2
          have r2 : ((k : Int) == (k : Int)) = true := by simp
          have HF := hide (unhide HBD 7 ((unhide HMOD).1 ⟨⟨(q : Int), (k : Int), ym, yf, yt, yb⟩, List.mem_of_getElem? (i := t) (by rw [List.getElem?_take, if_pos hti]; exact unhide HYY), rfl, rfl⟩) (by decide))
          go_wp2_with fail
          go_quiet (fail)
          go_wp2_with fail
          go_quiet (fail)
          go_wp2_with fail
          exact bodyPost_ret (v := .tuple #[.int .i64 7, .int .i64 (i : Int)]) (by simp [results, Try.results14, go_sem]) rfl ⟨by rw [(unhide HF).1, (unhide HF).2], by repeat (first | exact (unhide HK2).b | refine bel_dn' ?_ _)⟩
        have r2 : (ys == (k : Int)) = false := by simp [e2]
        by_cases e3 : ys = (k : Int) - 1
        · subst e3
          have r3 : (((k : Int) - 1) == ((k : Int) - 1)) = true := by simp
          have HA1 : Hid (ahd ⟨(q : Int), (k : Int), (mm : Int), fr, ti, fs⟩ (P.take (t + 1)) = decide (yt ≤ fr)) := hide (by rw [unhide HAT, if_pos ⟨rfl, rfl⟩])
          have HE2 := hide e2
          clear e2 HAT
          go_wp2_with fail
          go_quiet (fail)
          go_wp2_with fail
          go_quiet (fail)
          go_wp2_with fail
          go_quiet (fail)
          go_wp2_with fail
          go_quiet (fail)
          go_wp2_with fail
          go_roundw
          case rel =>
            refine ⟨t + 1, ?_, by simp, hti, unhide HNX (fun hh' => unhide HE2 hh'.2), by repeat (first | exact unhide HK2 | refine Kp.dn ?_ _)⟩
            rw [unhide HA1]
          case measure => first | (simp only [intOf]; omega) | (simp [intOf]; omega)
        · have r3 : (ys == ((k : Int) - 1)) = false := by simp [e3]
          have HE2 := hide e2
          have HE3 := hide e3
          have HA1 : Hid (ahd ⟨(q : Int), (k : Int), (mm : Int), fr, ti, fs⟩ (P.take (t + 1)) = ahd ⟨(q : Int), (k : Int), (mm : Int), fr, ti, fs⟩ (P.take t)) := hide (by rw [unhide HAT, if_neg (fun hh' => e3 hh'.2)])
          clear e2 e3 HAT
          go_wp2_with fail
          go_quiet (fail)
          go_wp2_with fail
          go_quiet (fail)
          go_wp2_with fail
          go_quiet (fail)
          go_wp2_with fail
          go_roundw
          case rel =>
            refine ⟨t + 1, ?_, by simp, hti, unhide HNX (fun hh' => unhide HE2 hh'.2), by repeat (first | exact unhide HK2 | refine Kp.dn ?_ _)⟩
            rw [unhide HA1]
          case measure => first | (simp only [intOf]; omega) | (simp [intOf]; omega)
      · have tz : decide ((t : Int) < (i : Int)) = false := decide_eq_false (by omega)
        have tq : ¬ ((t : Int) < (i : Int)) := by omega
        have hte : t = i := by omega
        have HNO2 : Hid (∀ y ∈ P.take i, ¬ (y.jb = (q : Int) ∧ y.st = (k : Int))) := hide (by rw [← hte]; exact unhide HNO)
        have HM2 := hide ((unhide HMOD).2 (unhide HNO2))
        rw [← hte] at HM2
        generalize ahd ⟨(q : Int), (k : Int), (mm : Int), fr, ti, fs⟩ (P.take t) = ah at *
        clear hte
        have hyk2 : y.wr ≤ 1000 := by omega
        have b2 := (unhide HK2).p.cell (m := 2) rfl
        have b3 := (unhide HK2).p.cell (m := 3) rfl
        have b4 := (unhide HK2).p.cell (m := 4) rfl
        have b5 := (unhide HK2).p.cell (m := 5) rfl
        have bl := (unhide HK2).p.lt
        have x0 := (unhide HK2).x.cell (m := 0) rfl
        have x1 := (unhide HK2).x.cell (m := 1) rfl
        have x2 := (unhide HK2).x.cell (m := 2) rfl
        have x3 := (unhide HK2).x.cell (m := 3) rfl
        have xl := (unhide HK2).x.lt
        have s1 := (unhide HK2).s.cell (m := 1) rfl
        have s2 := (unhide HK2).s.cell (m := 2) rfl
        have sl' := (unhide HK2).s.lt
        have m0 := own_at (unhide HK2).o (flatG_at mcm_len (unhide HY) (j := 0) rfl)
        have m1 := own_at (unhide HK2).o (flatG_at mcm_len (unhide HY) (j := 1) rfl)
        have m2 := own_at (unhide HK2).o (flatG_at mcm_len (unhide HY) (j := 2) rfl)
        simp only [Nat.add_zero] at m0
        have ol := (own_lt (unhide HK2).o).2
        have fzg : ∀ o, wr.frozen? ⟨gv, o, none⟩ = false := own_frz (unhide HK2).o
        clear hk
        by_cases g7 : fr < 0
        · have t7 : decide (fr < 0) = true := decide_eq_true g7
          have HF := hide (unhide HBD 5 ((unhide HM2).1 (.inl g7)) (by decide))
          go_wp2_with fail
          exact bodyPost_ret (v := .tuple #[.int .i64 5, .int .i64 (i : Int)]) (by simp [results, Try.results14, go_sem]) rfl ⟨by rw [(unhide HF).1, (unhide HF).2], (unhide HK2).b⟩
        have t7 : decide (fr < 0) = false := decide_eq_false g7
        by_cases g8 : 1000000000 < fr
        · have t8 : decide (1000000000 < fr) = true := decide_eq_true g8
          have HF := hide (unhide HBD 5 ((unhide HM2).1 (.inr g8)) (by decide))
          go_wp2_with fail
          exact bodyPost_ret (v := .tuple #[.int .i64 5, .int .i64 (i : Int)]) (by simp [results, Try.results14, go_sem]) rfl ⟨by rw [(unhide HF).1, (unhide HF).2], (unhide HK2).b⟩
        have t8 : decide (1000000000 < fr) = false := decide_eq_false g8
        have HM3 := hide ((unhide HM2).2 ⟨by omega, by omega⟩)
        cases hah : ah with
        | false =>
          have HF := hide (unhide HBD 13 ((unhide HM3).1 (.inl hah)) (by decide))
          go_wp2_with fail
          exact bodyPost_ret (v := .tuple #[.int .i64 13, .int .i64 (i : Int)]) (by simp [results, Try.results14, go_sem]) rfl ⟨by rw [(unhide HF).1, (unhide HF).2], (unhide HK2).b⟩
        | true =>
        by_cases g9 : y.fr ≤ fr
        rotate_left
        · have t9 : decide (y.fr ≤ fr) = false := decide_eq_false g9
          have HF := hide (unhide HBD 13 ((unhide HM3).1 (.inr (by omega))) (by decide))
          go_wp2_with fail
          exact bodyPost_ret (v := .tuple #[.int .i64 13, .int .i64 (i : Int)]) (by simp [results, Try.results14, go_sem]) rfl ⟨by rw [(unhide HF).1, (unhide HF).2], (unhide HK2).b⟩
        have t9 : decide (y.fr ≤ fr) = true := decide_eq_true g9
        have HM4 := hide ((unhide HM3).2 ⟨hah, g9⟩)
        have HFR := hide (fun W => fresh_any y.fr y.tl y.wr (mm : Int) sti sl se L W ⟨hyk.1, hyk2⟩ ⟨a7, by omega⟩)
        rw [show (⟨y.tl, y.wr, y.fr⟩ : Mch) = y from rfl] at HFR
        generalize frsh L y ⟨(mm : Int), sti, sl, se⟩ = ff at *
        have HLO : Hid (∀ f : Bool, lon S f ⟨(mm : Int), sti, sl, se⟩ = sti + if f = true then S else 0) := hide (fun f => rfl)
        go_wp2_with fail
        go_region_held3 (fun wx => wx.cell? ⟨gv, mm * 3, none⟩ = some (.int .i64 y.fr) ∧ wx.cell? ⟨gv, mm * 3 + 1, none⟩ = some (.int .i64 y.tl) ∧ wx.cell? ⟨gv, mm * 3 + 2, none⟩ = some (.int .i64 y.wr) ∧ wx.cell? ⟨xb, 0, none⟩ = some (.int .i64 (mm : Int)) ∧ wx.cell? ⟨xb, 1, none⟩ = some (.int .i64 sti) ∧ wx.cell? ⟨xb, 2, none⟩ = some (.int .i64 sl) ∧ wx.cell? ⟨xb, 3, none⟩ = some (.int .i64 se) ∧ wx.cell? ⟨w.heap.size, 2, none⟩ = some (.int .i64 L) ∧ wx.cell? ⟨bx, 2, none⟩ = some (.int .i64 (mm : Int)))
          (simp (maxDischargeDepth := 12) [go_sem, le1, lt1, *])
          (first
          | (go_at_call 37; refine (unhide HFR _).mono ?_; rintro e w9 ⟨rfl, hb9⟩; have HK9 : Hid (Kp w w9 bx xb gv B m cap S L ⟨(q : Int), (k : Int), (mm : Int), fr, ti, fs⟩ ⟨(mm : Int), sti, sl, se⟩ hh.ms) := hide (Kp.bel (by repeat (first | exact unhide HK2 | refine Kp.drew ?_)) hb9); have cc0 := keep1 hb9 (b := gv) (o := mm * 3) (v := .int .i64 y.fr) (by simp (maxDischargeDepth := 12) [go_sem, le1, lt1, *]); have cc1 := keep1 hb9 (b := gv) (o := mm * 3 + 1) (v := .int .i64 y.tl) (by simp (maxDischargeDepth := 12) [go_sem, le1, lt1, *]); have cc2 := keep1 hb9 (b := gv) (o := mm * 3 + 2) (v := .int .i64 y.wr) (by simp (maxDischargeDepth := 12) [go_sem, le1, lt1, *]); have cc3 := keep1 hb9 (b := xb) (o := 0) (v := .int .i64 (mm : Int)) (by simp (maxDischargeDepth := 12) [go_sem, le1, lt1, *]); have cc4 := keep1 hb9 (b := xb) (o := 1) (v := .int .i64 sti) (by simp (maxDischargeDepth := 12) [go_sem, le1, lt1, *]); have cc5 := keep1 hb9 (b := xb) (o := 2) (v := .int .i64 sl) (by simp (maxDischargeDepth := 12) [go_sem, le1, lt1, *]); have cc6 := keep1 hb9 (b := xb) (o := 3) (v := .int .i64 se) (by simp (maxDischargeDepth := 12) [go_sem, le1, lt1, *]); have cc7 := keep1 hb9 (b := w.heap.size) (o := 2) (v := .int .i64 L) (by simp (maxDischargeDepth := 12) [go_sem, le1, lt1, *]); have cc8 := keep1 hb9 (b := bx) (o := 2) (v := .int .i64 (mm : Int)) (by simp (maxDischargeDepth := 12) [go_sem, le1, lt1, *]); clear hb9))
        all_goals
          clear b2 b3 b4 b5 bl x0 x1 x2 x3 xl s1 s2 sl' m0 m1 m2 ol fzg
          have b2 := (unhide HK9).p.cell (m := 2) rfl
          have b3 := (unhide HK9).p.cell (m := 3) rfl
          have b4 := (unhide HK9).p.cell (m := 4) rfl
          have b5 := (unhide HK9).p.cell (m := 5) rfl
          have bl := (unhide HK9).p.lt
          have x1 := (unhide HK9).x.cell (m := 1) rfl
          have xl := (unhide HK9).x.lt
          have s1 := (unhide HK9).s.cell (m := 1) rfl
          have sl' := (unhide HK9).s.lt
          have ol := (own_lt (unhide HK9).o).2
          have fzg : ∀ o, w9.frozen? ⟨gv, o, none⟩ = false := own_frz (unhide HK9).o
          by_cases g10 : ff = fs
          rotate_left
          · have r1 : (ff != fs) = true := by simp [g10]
            have r2 : (!(ff == fs)) = true := by simp [g10]
            have r3 : (ff == fs) = false := by simp [g10]
            have HF := hide (unhide HBD 16 ((unhide HM4).1 g10) (by decide))
            clear g10
            go_wp2_with fail
            exact bodyPost_ret (v := .tuple #[.int .i64 16, .int .i64 (i : Int)]) (by simp [results, Try.results14, go_sem]) rfl ⟨by rw [(unhide HF).1, (unhide HF).2], (unhide HK9).b⟩
          subst g10
          have r1 : (ff != ff) = false := by simp
          have r2 : (!(ff == ff)) = false := by simp
          have r3 : (ff == ff) = true := by simp
          have HM5 := hide ((unhide HM4).2 rfl)
          rw [unhide HLO] at HM5
          obtain ⟨lo, hlo⟩ : ∃ lo, (sti + if ff = true then S else 0) = lo := ⟨_, rfl⟩
          rw [hlo] at HM5
          have lo1 : 1 ≤ lo ∧ lo ≤ 2000 := by rw [← hlo]; split <;> omega
          have w1 : IntKind.i64.wrap (sti + S) = sti + S := wrap_i (by omega) (by omega)
          have w2 : IntKind.i64.wrap (fr + lo) = fr + lo := wrap_i (by omega) (by omega)
          have HLO2 := hide hlo
          by_cases g11 : ti = fr + lo
          rotate_left
          · have r4 : (ti != fr + lo) = true := by simp [g11]
            have r5 : (ti == fr + lo) = false := by simp [g11]
            have HF := hide (unhide HBD 19 ((unhide HM5).1 g11) (by decide))
            cases ff with
            | true =>
              have hlo' : lo = sti + S := by simpa using hlo.symm
              subst hlo'
              clear hlo
              go_wp2_with fail
              exact bodyPost_ret (v := .tuple #[.int .i64 19, .int .i64 (i : Int)]) (by simp [results, Try.results14, go_sem]) rfl ⟨by rw [(unhide HF).1, (unhide HF).2], (unhide HK9).b⟩
            | false =>
              have hlo' : sti = lo := by simpa using hlo
              subst hlo'
              clear hlo
              go_wp2_with fail
              exact bodyPost_ret (v := .tuple #[.int .i64 19, .int .i64 (i : Int)]) (by simp [results, Try.results14, go_sem]) rfl ⟨by rw [(unhide HF).1, (unhide HF).2], (unhide HK9).b⟩
          have HZ := hide ((unhide HM5).2 g11)
          have HG11 := hide g11
          have r4 : (ti != ti) = false := by simp
          have r5 : (ti == ti) = true := by simp
          have mxe : max y.fr ti = ti := by omega
          have HDO := hide (fun W => mdo_any y.fr y.tl y.wr (mm : Int) sti sl se ff ti W ⟨hyk.1, hyk2⟩ ⟨a7, by omega⟩)
          rw [mxe] at HDO
          have w2' : IntKind.i64.wrap (fr + lo) = ti := w2.trans g11.symm
          clear mxe g11 w2
          obtain ⟨wn, hwn⟩ : ∃ wn, ((if ff = true then 0 else y.wr) + se) = wn := ⟨_, rfl⟩
          rw [hwn] at HDO
          have HWN := hide hwn
          clear hwn
          cases ff with
          | true =>
            have hlo' : lo = sti + S := by simpa using hlo.symm
            subst hlo'
            clear hlo
            go_wp2_with fail
            refine Go.Code.wp_mono (Only.to (fun _ _ h => h)) (pc35 (mm := mm) (ff := true) (ti := ti) (sti := sti) (sl := sl) (se := se) (yf := y.fr) (yt := y.tl) (yw := y.wr) (wn := wn) (hide b2) (hide b4) (hide ((unhide HK9).x.cell (m := 0) rfl)) (hide ((unhide HK9).x.cell (m := 1) rfl)) (hide ((unhide HK9).x.cell (m := 2) rfl)) (hide ((unhide HK9).x.cell (m := 3) rfl)) (hide cc0) (hide cc1) (hide cc2) ol (hide cc0) (hide cc1) (hide cc2) (hide fzg) (hide mmn) (hide fun X _ => unhide HDO X) (hide mmn) ?_)
            intro W10 W11 hW11 hb10
            have HK10 := hide ((unhide HK9).bel hb10)
            have HB11 : Hid (Below w.heap.size w W11) := hide (by rw [hW11]; exact Below.setCell (Below.setCell (Below.setCell (unhide HK10).b (Nat.le_of_lt (unhide HGV)) _) (Nat.le_of_lt (unhide HGV)) _) (Nat.le_of_lt (unhide HGV)) _)
            have HO11 : Hid (W11.ownsRow B 73 3 (.slice (some ⟨gv, 0, none⟩) m cap) m (flatG mcm (sDo J hh ⟨(q : Int), (k : Int), (mm : Int), fr, ti, true⟩).ms)) := hide (by
              have e : (sDo J hh ⟨(q : Int), (k : Int), (mm : Int), fr, ti, true⟩).ms = hh.ms.set mm ⟨sl, wn, ti⟩ := by
                simp only [sDo, unhide HSO, Option.getD_some, mDo, Int.toNat_natCast, unhide HMA]
                rw [← unhide HWN]
              rw [e, flatMm_set (by have := (unhide HV9).ml; simp at this; omega), hW11]
              exact own_set (own_set (own_set (unhide HK10).o _ _) _ _) _ _)
            have HS11 : Hid (vb W11 w.heap.size 27 [.int .i64 (m : Int), .int .i64 S, .int .i64 L]) := hide (by
              have := unhide HGV
              rw [hW11]; exact (((unhide HK10).s.ne (by omega)).ne (by omega)).ne (by omega))
            clear hW11 hb10
            clear b2 b3 b4 b5 bl x1 xl s1 sl' ol fzg cc0 cc1 cc2 cc3 cc4 cc5 cc6 cc7 cc8 HDO HFR HMOD HM2 HM3 HM4 HM5 HK9 HK2 HK10
            go_wp2_with fail
            go_roundw
            case rel =>
              have r1 := (unhide HUP).succ (by rw [unhide HCA, unhide HZ])
              have r2 : W11.ownsRow B 73 3 (.slice (some ⟨gv, 0, none⟩) m cap) m (flatG mcm (hal (m : Int) J (P.take (i + 1))).ms) := by rw [unhide HT]; exact unhide HO11
              first | exact ⟨i + 1, by simp, h, r1, r2, unhide HS11, unhide HB11⟩ | ((repeat apply Exists.intro); refine ⟨?_, rfl⟩; exact ⟨i + 1, by simp, h, r1, r2, unhide HS11, unhide HB11⟩)
            case measure => first | (simp only [intOf]; omega) | (simp [intOf]; omega)
          | false =>
            have hlo' : sti = lo := by simpa using hlo
            subst hlo'
            clear hlo
            go_wp2_with fail
            refine Go.Code.wp_mono (Only.to (fun _ _ h => h)) (pc35 (mm := mm) (ff := false) (ti := ti) (sti := sti) (sl := sl) (se := se) (yf := y.fr) (yt := y.tl) (yw := y.wr) (wn := wn) (hide b2) (hide b4) (hide ((unhide HK9).x.cell (m := 0) rfl)) (hide ((unhide HK9).x.cell (m := 1) rfl)) (hide ((unhide HK9).x.cell (m := 2) rfl)) (hide ((unhide HK9).x.cell (m := 3) rfl)) (hide cc0) (hide cc1) (hide cc2) ol (hide cc0) (hide cc1) (hide cc2) (hide fzg) (hide mmn) (hide fun X _ => unhide HDO X) (hide mmn) ?_)
            intro W10 W11 hW11 hb10
            have HK10 := hide ((unhide HK9).bel hb10)
            have HB11 : Hid (Below w.heap.size w W11) := hide (by rw [hW11]; exact Below.setCell (Below.setCell (Below.setCell (unhide HK10).b (Nat.le_of_lt (unhide HGV)) _) (Nat.le_of_lt (unhide HGV)) _) (Nat.le_of_lt (unhide HGV)) _)
            have HO11 : Hid (W11.ownsRow B 73 3 (.slice (some ⟨gv, 0, none⟩) m cap) m (flatG mcm (sDo J hh ⟨(q : Int), (k : Int), (mm : Int), fr, ti, false⟩).ms)) := hide (by
              have e : (sDo J hh ⟨(q : Int), (k : Int), (mm : Int), fr, ti, false⟩).ms = hh.ms.set mm ⟨sl, wn, ti⟩ := by
                simp only [sDo, unhide HSO, Option.getD_some, mDo, Int.toNat_natCast, unhide HMA]
                rw [← unhide HWN]
              rw [e, flatMm_set (by have := (unhide HV9).ml; simp at this; omega), hW11]
              exact own_set (own_set (own_set (unhide HK10).o _ _) _ _) _ _)
            have HS11 : Hid (vb W11 w.heap.size 27 [.int .i64 (m : Int), .int .i64 S, .int .i64 L]) := hide (by
              have := unhide HGV
              rw [hW11]; exact (((unhide HK10).s.ne (by omega)).ne (by omega)).ne (by omega))
            clear hW11 hb10
            clear b2 b3 b4 b5 bl x1 xl s1 sl' ol fzg cc0 cc1 cc2 cc3 cc4 cc5 cc6 cc7 cc8 HDO HFR HMOD HM2 HM3 HM4 HM5 HK9 HK2 HK10
            go_wp2_with fail
            go_roundw
            case rel =>
              have r1 := (unhide HUP).succ (by rw [unhide HCA, unhide HZ])
              have r2 : W11.ownsRow B 73 3 (.slice (some ⟨gv, 0, none⟩) m cap) m (flatG mcm (hal (m : Int) J (P.take (i + 1))).ms) := by rw [unhide HT]; exact unhide HO11
              first | exact ⟨i + 1, by simp, h, r1, r2, unhide HS11, unhide HB11⟩ | ((repeat apply Exists.intro); refine ⟨?_, rfl⟩; exact ⟨i + 1, by simp, h, r1, r2, unhide HS11, unhide HB11⟩)
            case measure => first | (simp only [intOf]; omega) | (simp [intOf]; omega)
end Go.Proofs.Ytbgekppggakdoaa
