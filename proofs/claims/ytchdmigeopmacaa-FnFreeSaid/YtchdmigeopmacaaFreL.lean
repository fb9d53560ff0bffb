/-
  A drawn sketch's freedoms: what the law FnFree asks holds of every right sketch.
-/
import Derived.Test.YtchdmigeopmacaaFrMath
import Derived.Test.YtchdmigeopmacaaSkOfT
import Derived.Deep.Cut
import Derived.Deep.CutRange
namespace Go.Proofs.Ytchdmigeopmacaa
open Go.ChangeShapes Go.WideShapes Go.ChangeAt Go.RowKit
set_option linter.unusedVariables false
set_option linter.unusedSimpArgs false

set_option maxHeartbeats 1000000 in
theorem ints_same (u v : Option Addr) (p po q qo n cu cv : Nat) (L : List Int) (w : World) (hl : L.length = n * 1) (hn : n ≤ 4611686018427387904)
    (hu : n ≠ 0 → u = some ⟨p, po, none⟩ ∧ p < w.heap.size ∧ IntsAt w p po L) (hv : n ≠ 0 → v = some ⟨q, qo, none⟩ ∧ q < w.heap.size ∧ IntsAt w q qo L) :
    Calls Try.prog 10 #[.slice u n cu, .slice v n cv] w fun e w' => e = .returned (.bool true) ∧ Below w.heap.size w w' := by
  have HU := hide hu
  have HV := hide hv
  have HL := hide hl
  clear hu hv hl
  go_enter Try.func10, Try.ntmps10
  go_wp2
  go_loopw [5] (fun s W => ∃ i : Nat, s = .int .i64 (i : Int) ∧ i ≤ n ∧ Below w.heap.size w W) (fun s _ => n - (intOf s).toNat)
  case atStart => exact ⟨0, rfl, Nat.zero_le _, Below.refl _ _⟩
  case round =>
    obtain ⟨i, rfl, hi, hw⟩ := hrel
    have HW := hide hw
    clear hw
    by_cases h : i < n
    · have i1 : (i : Int) < (n : Int) := by omega
      have i0 : (0 : Int) ≤ (i : Int) := Int.natCast_nonneg _
      have iz : decide ((i : Int) < (n : Int)) = true := decide_eq_true i1
      obtain ⟨rfl, pw, pa⟩ := unhide HU (by omega)
      obtain ⟨rfl, qw, qa⟩ := unhide HV (by omega)
      have pb := pa.below (unhide HW) pw
      have qb := qa.below (unhide HW) qw
      obtain ⟨x0, e0⟩ := at_of (f := 0) (unhide HL) h (by omega)
      have k0 := pb.at0 e0
      have l0 := qb.at0 e0
      clear pa qa pb qb pw qw e0
      have f0 : (x0 != x0) = false := by simp
      rw [Nat.mul_one] at k0 l0
      go_wp2_with fail
      go_region
      all_goals
        go_wp2_with fail
        go_roundw
        case rel => exact ⟨i + 1, by simp, h, by repeat (first | exact unhide HW | refine Below.drew ?_)⟩
        case measure => simp only [intOf]; omega
    · have i1 : ¬ (i : Int) < (n : Int) := by omega
      have iz : decide ((i : Int) < (n : Int)) = false := decide_eq_false i1
      go_wp2_with fail
      go_ret
      exact ⟨rfl, unhide HW⟩

theorem rusAt_ints4 {w : World} {g : Nat} {rs : List Ru} (h : IntsAt w g 0 (flat4 rs)) : RusAt w g 0 rs := by
  intro j r hj
  obtain ⟨h0, h1, h2, h3⟩ := flat4_at hj
  exact ⟨h _ _ h0, h _ _ h1, h _ _ h2, h _ _ h3⟩
theorem flat4_append (a b : List Ru) : flat4 (a ++ b) = flat4 a ++ flat4 b := by simp [flat4]
/-- x is one of the first k numbers -/
def tl (S : List Nat) (x k : Nat) : Bool := (S.take k).any (fun y => y == x)
theorem tl_succ {S : List Nat} {x k y : Nat} (h : S[k]? = some y) : tl S x (k + 1) = (tl S x k || y == x) := by
  unfold tl
  rw [List.take_add_one, h]
  simp
theorem tl_all (S : List Nat) (x : Nat) : tl S x S.length = decide (x ∈ S) := by
  unfold tl
  rw [List.take_length, Bool.eq_iff_iff]
  simp

set_option maxHeartbeats 4000000 in
set_option maxRecDepth 100000 in
theorem fnFree_core (a : Option Addr) (len cap : Nat) (zs : List Int) (w : World) (hl : len ≤ 1048576)
    (HOF : Hid (∀ W, Below w.heap.size w W → Calls Try.prog 6 #[.slice a len cap] W fun e w' => ∃ (v : Value) (n : Int) (rs : List Ru), e = .returned v ∧ SkAt w' v n rs ∧ Below W.heap.size W w')) :
    Calls Try.prog 4 #[.slice a len cap] w fun e w' => e = .returned (.bool true) ∧ Below w.heap.size w w' := by
  obtain ⟨iR, hi1, hy0, hy1, hy2⟩ := info_parts info35s
  have hl1 : decide ((1048576 : Int) < (len : Int)) = false := decide_eq_false (by omega)
  go_enter Try.func4, Try.ntmps4
  go_wp2_with fail
  refine (unhide HOF _ (Below.refl _ _)).mono ?_
  rintro e W1 ⟨v, n, rs, rfl, ⟨hok, u, c, p, rfl, hcap, hcm, hx⟩, hb1⟩
  obtain ⟨n1, n2, l1, hr⟩ := ok_parts hok
  obtain ⟨N, rfl⟩ : ∃ N : Nat, n = (N : Int) := ⟨n.toNat, by omega⟩
  have HOK := hide hok
  have HR := hide hr
  have hX : ∀ W, Below W1.heap.size W1 W → ∀ j, j ≤ rs.length → (rs.take j).length ≠ 0 → u = some ⟨p, 0, none⟩ ∧ p < W.heap.size ∧ RusAt W p 0 (rs.take j) := by
    intro W hW j hj h0
    have h1 : rs.length ≠ 0 := by rw [List.length_take] at h0; omega
    obtain ⟨e1, e2, e3⟩ := hx h1
    refine ⟨e1, Nat.lt_of_lt_of_le e2 hW.size, fun i r hi => e3.bel hW e2 i r ?_⟩
    rw [List.getElem?_take] at hi
    split at hi
    · exact hi
    · cases hi
  have HX := hide hX
  have HB1 := hide hb1
  have HFP : Hid (∀ W, Below W1.heap.size W1 W → ∀ j, j ≤ rs.length → Calls Try.prog 13 #[skv (N : Int) u j c] W fun e w' => ∃ v, e = .returned (.tuple #[.int .i64 (outF (N : Int) (rs.take j)), v, .int .i64 (outC (N : Int) (rs.take j))]) ∧ Row w' W.heap.size 3 1 v (outS (N : Int) (rs.take j)).length (nats (outS (N : Int) (rs.take j))) ∧ Below W.heap.size W w') :=
    hide (fun W hW j hj => by
      have := freeP_any (N : Int) u p 0 j c (rs.take j) W (by rw [List.length_take]; omega) (by omega) (fun h => hX W hW j hj (by rw [List.length_take]; omega))
      exact this)
  have HFM : Hid (∀ W, Below W1.heap.size W1 W → Calls Try.prog 14 #[skv (N : Int) u rs.length c] W fun e w' => ∃ v, e = .returned (.tuple #[.int .i64 (outF (N : Int) rs), v, .int .i64 (outC (N : Int) rs)]) ∧ Sl w' v (outS (N : Int) rs).length (nats (outS (N : Int) rs)) ∧ Below W.heap.size W w') :=
    hide (fun W hW => by
      have h2 := hX W hW rs.length (Nat.le_refl _)
      rw [List.take_length] at h2
      exact freeM_any (N : Int) u p 0 rs.length c rs W rfl (by omega) h2)
  have HF0 : Hid (∀ W, Below W1.heap.size W1 W → Calls Try.prog 13 #[skv (N : Int) u rs.length c] W fun e w' => ∃ v, e = .returned (.tuple #[.int .i64 (outF (N : Int) rs), v, .int .i64 (outC (N : Int) rs)]) ∧ Row w' W.heap.size 3 1 v (outS (N : Int) rs).length (nats (outS (N : Int) rs)) ∧ Below W.heap.size W w') :=
    hide (fun W hW => by
      have := unhide HFP W hW rs.length (Nat.le_refl _)
      rwa [List.take_length] at this)
  have hsl := outS_le (N : Int) rs
  clear hb1 hx hX hr
  go_wp2_with fail
  refine (unhide HF0 _ (ba (Below.refl _ _) _)).mono ?_
  rintro e W2 ⟨v2, rfl, hrow2, hb2⟩
  have a0 : W2.cell? ⟨W1.heap.size, 0, none⟩ = some (.int .i64 (N : Int)) := keep1 hb2 (by simp [go_sem])
  have a1 : W2.cell? ⟨W1.heap.size, 1, none⟩ = some (.slice u rs.length c) := keep1 hb2 (by simp [go_sem])
  have HB2 : Hid (Below W1.heap.size W1 W2) := hide (bc (ba (Below.refl _ _) _) hb2)
  have HR2 := hide hrow2
  clear hb2 hrow2
  go_wp2_with fail
  refine (unhide HFM _ (unhide HB2)).mono ?_
  rintro e W3 ⟨v3, rfl, hsl3, hb3⟩
  have b0 := keep1 hb3 a0
  have b1 := keep1 hb3 a1
  have HB3 := hide (bc (unhide HB2) hb3)
  have HR3 := hide ((unhide HR2).below hb3)
  obtain ⟨vw, q3, c3, rfl, hat3⟩ := hsl3.at
  obtain ⟨vu, c2, rfl, hf2⟩ := (unhide HR3).form
  have hlen2 := (unhide HR3).len
  have hSI : ∃ q2, (outS (N : Int) rs).length ≠ 0 → vu = some ⟨q2, 0, none⟩ ∧ q2 < W3.heap.size ∧ IntsAt W3 q2 0 (nats (outS (N : Int) rs)) := by
    by_cases h0 : (outS (N : Int) rs).length = 0
    · exact ⟨0, fun h => absurd h0 h⟩
    · obtain ⟨g2, h1, _, h3, h4⟩ := hf2 h0
      exact ⟨g2, fun _ => ⟨h1, h3, h4⟩⟩
  obtain ⟨q2, hSI⟩ := hSI
  have HSI := hide hSI
  have HSA := hide (ints_same vu vw q2 0 q3 0 (outS (N : Int) rs).length c2 c3 (nats (outS (N : Int) rs)) W3 hlen2 (by omega) hSI hat3)
  have hne1 : (outC (N : Int) rs != outC (N : Int) rs) = false := by simp
  have hne2 : (outF (N : Int) rs != outF (N : Int) rs) = false := by simp
  clear hb3 hsl3 hat3 hf2 hlen2 hSI a0 a1 HR2 HB2
  go_wp2_with fail
  refine (unhide HSA).mono ?_
  rintro e W4 ⟨rfl, hb4⟩
  have d0 := keep1 hb4 b0
  have d1 := keep1 hb4 b1
  have HB4 := hide (bc (unhide HB3) hb4)
  have HSI4 : Hid ((outS (N : Int) rs).length ≠ 0 → vu = some ⟨q2, 0, none⟩ ∧ q2 < W4.heap.size ∧ IntsAt W4 q2 0 (nats (outS (N : Int) rs))) := hide (fun h => ⟨(unhide HSI h).1, Nat.lt_of_lt_of_le (unhide HSI h).2.1 hb4.size, (unhide HSI h).2.2.below hb4 (unhide HSI h).2.1⟩)
  clear hb4 b0 b1 HSI HSA HB3 HR3 HF0 HFM
  by_cases hC : outC (N : Int) rs = 0
  · have hC1 : (outC (N : Int) rs != 0) = false := by simp [hC]
    have hkp : keptP N rs = true := by
      cases hk : keptP N rs with
      | true => rfl
      | false =>
        unfold outC at hC
        rw [if_pos (unhide HOK), Int.toNat_natCast, hk] at hC
        cases hC
    obtain ⟨ff1, ff2, ff3, ff4⟩ := free_facts (unhide HOK) hkp
    have hmem : ∀ x, x ∈ outS (N : Int) rs ↔ x < rs.length ∧ toldR N rs x = true := by
      intro x
      unfold outS
      rw [if_pos (unhide HOK), Int.toNat_natCast, if_pos hkp]
      exact mem_spare N rs x rs.length
    have hoF : outF (N : Int) rs = (frTo N rs rs.length).1.2 := by
      have := (ff1 rs.length (Nat.le_refl _)).1
      rwa [List.take_length] at this
    have HFF := hide ff1
    have HF2 := hide ff2
    have HF3 := hide ff3
    have HF4 := hide ff4
    have HMEM := hide hmem
    have HOF2 := hide hoF
    have lt4 := cell_lt d0
    have hfr : ∀ i, i ≤ rs.length → 2 * (N : Int) - 2 * (i : Int) ≤ (frTo N rs i).1.2 ∧ (frTo N rs i).1.2 ≤ 2 * (N : Int) := by
      intro i
      induction i with
      | zero => intro _; exact ⟨by show 2 * (N : Int) - 2 * ((0 : Nat) : Int) ≤ 2 * (N : Int); omega, Int.le_refl _⟩
      | succ i ih =>
        intro hi
        have h1 := ih (by omega)
        have h2 := step_facts (unhide HR) (List.getElem?_eq_getElem (show i < rs.length by omega))
        omega
    have HFR := hide hfr
    clear ff1 ff2 ff3 ff4 hmem hoF hfr hkp
    go_wp2_with fail
    go_loopw [10, 11, 12] (fun t v s W => ∃ (i : Nat), s = .int .i64 (i : Int) ∧ i ≤ rs.length + 1 ∧ t = .int .i64 (frTo N rs (i - 1)).1.2 ∧ Row W W4.heap.size 35 4 v (untold N rs (i - 1)).length (flat4 (untold N rs (i - 1))) ∧ Below W4.heap.size W4 W) (fun _ _ s _ => rs.length + 1 - (intOf s).toNat)
    case atStart => exact ⟨0, rfl, by omega, rfl, row_made _ 35 _ 4 (by simp) _ (by simp), ba (Below.refl _ _) _⟩
    case round =>
      obtain ⟨i, rfl, hi, rfl, hrow, hw⟩ := hrel
      have HRW := hide hrow
      have HW := hide hw
      have x0 := keep1 hw d0
      have x1 := keep1 hw d1
      have hszw := hw.size
      have ltw := cell_lt x0
      obtain ⟨ur, cr, rfl, hform⟩ := hrow.form
      have HFO := hide hform
      clear hrow hw hform
      by_cases h : i ≤ rs.length
      · have iz : decide ((i : Int) ≤ (rs.length : Int)) = true := decide_eq_true (by omega)
        have ic : (i : Int) ≤ (c : Int) := by omega
        have i0 : (0 : Int) ≤ (i : Int) := by omega
        have HBX : Hid (Below W1.heap.size W1 wr) := hide ((unhide HB4).trans ((unhide HW).mono (unhide HB4).size))
        have fi := (unhide HFF i h)
        have fb := unhide HFR i h
        go_wp2_with fail
        go_region_held3 (fun wx => wx.cell? ⟨W1.heap.size, 0, none⟩ = some (.int .i64 (N : Int)) ∧ wx.cell? ⟨W1.heap.size, 1, none⟩ = some (.slice u rs.length c))
          (simp (maxDischargeDepth := 12) [go_sem, le1, lt1, *])
          (first
          | (go_at_call 13; refine (unhide HFP _ (by first | exact unhide HBX | exact Below.drew (unhide HBX)) i h).mono ?_; rintro e W5 ⟨v5, rfl, hrow5, hb5⟩; have HB5 : Hid (Below wr.heap.size wr W5) := hide (by first | exact hb5 | exact bc (Below.drew (Below.refl _ _)) hb5); have y0 := keep1 (unhide HB5) x0; have y1 := keep1 (unhide HB5) x1; clear hb5 hrow5))
        rcases Nat.eq_zero_or_pos i with rfl | hip
        · have t0 : decide ((0 : Int) < ((0 : Nat) : Int)) = false := rfl
          have e1 : (frTo N rs (0 - 1)).1.2 = (frTo N rs 0).1.2 := rfl
          have t1 : decide ((frTo N rs 0).1.2 < (frTo N rs 0).1.2) = false := by simp
          have t2 : decide ((frTo N rs 0).1.2 < (frTo N rs 0).1.2 - 2) = false := decide_eq_false (by omega)
          have t3 : ((frTo N rs 0).1.2 != (frTo N rs 0).1.2) = false := by simp
          rw [e1]
          generalize hF : (frTo N rs 0).1.2 = F at *
          go_wp2_with fail
          go_roundw
          case rel => first | exact ⟨1, rfl, by omega, by rw [← hF], (unhide HRW).below (unhide HB5), (unhide HW).trans ((unhide HB5).mono hszw)⟩ | ((repeat apply Exists.intro); refine ⟨?_, rfl⟩; exact ⟨1, rfl, by omega, by rw [← hF], (unhide HRW).below (unhide HB5), (unhide HW).trans ((unhide HB5).mono hszw)⟩)
          case measure => simp only [intOf]; omega
        · obtain ⟨j, rfl⟩ : ∃ j, i = j + 1 := ⟨i - 1, by omega⟩
          have hjl : j < rs.length := by omega
          obtain ⟨K, A, B, M, hrj⟩ : ∃ K A B M : Int, rs[j]? = some (K, A, B, M) := ⟨_, _, _, _, List.getElem?_eq_getElem hjl⟩
          have hst := step_facts (unhide HR) hrj
          have fb2 := unhide HFR j (by omega)
          have hgD : rs.getD j (0, 0, 0, 0) = (K, A, B, M) := by rw [List.getD_eq_getElem?_getD, hrj]; rfl
          rw [Nat.add_sub_cancel] at *
          have hun : untold N rs (j + 1) = if toldR N rs j = true then untold N rs j else untold N rs j ++ [(K, A, B, M)] := by rw [untold, hgD]
          have HUN := hide hun
          have hRX := unhide HX W5 (bc (unhide HBX) (unhide HB5)) rs.length (Nat.le_refl _)
          rw [List.take_length] at hRX
          obtain ⟨hu, hp5, hRA⟩ := hRX (by omega)
          obtain ⟨k0, k1, k2, k3⟩ := hRA j _ hrj
          simp only [Nat.zero_add] at k0 k1 k2 k3
          have tm : toldR N rs j = decide (j ∈ outS (N : Int) rs) := by
            rw [Bool.eq_iff_iff, decide_eq_true_iff]
            exact ⟨fun e => (unhide HMEM j).2 ⟨hjl, e⟩, fun e => ((unhide HMEM j).1 e).2⟩
          have HTM := hide tm
          have HST := hide hst
          have t0 : decide ((0 : Int) < ((j + 1 : Nat) : Int)) = true := decide_eq_true (by omega)
          have t00 : (((j + 1 : Nat) : Int) == 0) = false := by simp; omega
          have t1 : decide ((frTo N rs j).1.2 < (frTo N rs (j + 1)).1.2) = false := decide_eq_false (by omega)
          have t2 : decide ((frTo N rs (j + 1)).1.2 < (frTo N rs j).1.2 - 2) = false := decide_eq_false (by omega)
          have jj : (j : Int) < (rs.length : Int) := by omega
          have hSI5 : (outS (N : Int) rs).length ≠ 0 → vu = some ⟨q2, 0, none⟩ ∧ q2 < W5.heap.size ∧ IntsAt W5 q2 0 (nats (outS (N : Int) rs)) := fun h0 => ⟨(unhide HSI4 h0).1, by have := (unhide HSI4 h0).2.1; have := (unhide HB5).size; omega, ((unhide HSI4 h0).2.2.below (unhide HW) (unhide HSI4 h0).2.1).below (unhide HB5) (by have := (unhide HSI4 h0).2.1; omega)⟩
          have HSI5 := hide hSI5
          have HRW5 := hide ((unhide HRW).below (unhide HB5))
          have hsz5 := (unhide HB5).size
          have lt5 := cell_lt y0
          subst hu
          clear hst hun hRX hRA hrj hgD tm hSI5 x0 x1
          go_upto_region 22 with fail
          go_cut [17] (fun s wx => ∃ id : Bool, s = .bool id ∧ (id = true ↔ K = 5 ∨ K = 6) ∧ wx = W5.alloc (.cells #[.int .i64 K, .int .i64 A, .int .i64 B, .int .i64 M] 35))
          case first =>
            by_cases h5 : K = 5
            · have q5 : (K == 5) = true := by simp [h5]
              go_wp2_with fail
              go_meet
              exact ⟨true, rfl, by simp [h5], by rw [h5]⟩
            · have q5 : (K == 5) = false := by simp [h5]
              by_cases h6 : K = 6
              · have q6 : (K == 6) = true := by simp [h6]
                go_wp2_with fail
                go_meet
                exact ⟨true, rfl, by simp [h6], by rw [h6]⟩
              · have q6 : (K == 6) = false := by simp [h6]
                go_wp2_with fail
                go_meet
                exact ⟨false, rfl, by simp [h5, h6], rfl⟩
          case rest =>
            obtain ⟨id, rfl, hidK, hwc⟩ := hcut
            have HIDK := hide hidK
            clear hidK
            have o0 : wc.cell? ⟨W5.heap.size, 0, none⟩ = some (.int .i64 K) := by rw [hwc]; simp [go_sem]
            have o1 : wc.cell? ⟨W5.heap.size, 1, none⟩ = some (.int .i64 A) := by rw [hwc]; simp [go_sem]
            have o2 : wc.cell? ⟨W5.heap.size, 2, none⟩ = some (.int .i64 B) := by rw [hwc]; simp [go_sem]
            have o3 : wc.cell? ⟨W5.heap.size, 3, none⟩ = some (.int .i64 M) := by rw [hwc]; simp [go_sem]
            have HBc : Hid (Below W5.heap.size W5 wc) := hide (by rw [hwc]; exact ba (Below.refl _ _) _)
            have HRWc := hide ((unhide HRW5).below (unhide HBc))
            have HSIc : Hid ((outS (N : Int) rs).length ≠ 0 → vu = some ⟨q2, 0, none⟩ ∧ q2 < wc.heap.size ∧ IntsAt wc q2 0 (nats (outS (N : Int) rs))) := hide (fun h0 => ⟨(unhide HSI5 h0).1, Nat.lt_of_lt_of_le (unhide HSI5 h0).2.1 (unhide HBc).size, (unhide HSI5 h0).2.2.below (unhide HBc) (unhide HSI5 h0).2.1⟩)
            have hszc := (unhide HBc).size
            clear hwc
            go_wp2_with fail
            go_loopw [18, 19] (fun t s W => ∃ q : Nat, s = .int .i64 (q : Int) ∧ q ≤ (outS (N : Int) rs).length ∧ t = .bool (tl (outS (N : Int) rs) j q) ∧ W = wc) (fun _ s _ => (outS (N : Int) rs).length - (intOf s).toNat)
            case atStart => exact ⟨0, rfl, by omega, rfl, rfl⟩
            case round =>
              obtain ⟨q, rfl, hq, rfl, rfl⟩ := hrel
              by_cases hql : q < (outS (N : Int) rs).length
              · have z1 : decide ((q : Int) < ((outS (N : Int) rs).length : Int)) = true := decide_eq_true (by omega)
                have z2 : (q : Int) < ((outS (N : Int) rs).length : Int) := by omega
                have z3 : (0 : Int) ≤ (q : Int) := by omega
                obtain ⟨hvu, _, hints⟩ := unhide HSIc (by omega)
                have hy := List.getElem?_eq_getElem hql
                have hcy := hints q _ (nats_at hy)
                rw [Nat.zero_add] at hcy
                have htl := tl_succ (x := j) hy
                have HTL := hide htl
                subst hvu
                clear hints htl hy
                generalize (outS (N : Int) rs)[q] = y at *
                cases hb : tl (outS (N : Int) rs) j q with
                | true =>
                  go_wp2_with fail
                  go_roundw
                  case rel => first | exact ⟨q + 1, by simp, by omega, by rw [unhide HTL, hb]; rfl, by first | rfl | trivial⟩ | ((repeat apply Exists.intro); refine ⟨?_, rfl⟩; exact ⟨q + 1, by simp, by omega, by rw [unhide HTL, hb]; rfl, by first | rfl | trivial⟩)
                  case measure => simp only [intOf]; omega
                | false =>
                  have hyj : (((y : Nat) : Int) == (j : Int)) = (y == j) := by
                    rw [Bool.eq_iff_iff, beq_iff_eq, beq_iff_eq]
                    omega
                  go_wp2_with fail
                  go_roundw
                  case rel => first | exact ⟨q + 1, by simp, by omega, by rw [unhide HTL, hb, Bool.false_or], by first | rfl | trivial⟩ | ((repeat apply Exists.intro); refine ⟨?_, rfl⟩; exact ⟨q + 1, by simp, by omega, by rw [unhide HTL, hb, Bool.false_or], by first | rfl | trivial⟩)
                  case measure => simp only [intOf]; omega
              · have z1 : decide ((q : Int) < ((outS (N : Int) rs).length : Int)) = false := decide_eq_false (by omega)
                have en : q = (outS (N : Int) rs).length := by omega
                subst en
                have htd : tl (outS (N : Int) rs) j (outS (N : Int) rs).length = toldR N rs j := by rw [tl_all, unhide HTM]
                rw [htd]
                have hst2 := (unhide HST).2.2
                generalize hF : (frTo N rs (j + 1)).1.2 = F at *
                generalize hG : (frTo N rs j).1.2 = G at *
                have hun := unhide HUN
                cases hTD : toldR N rs j with
                | true =>
                  rw [hTD] at hst2 hun
                  have hFG : (F == G) = true := by rw [beq_iff_eq]; exact hst2.2 (.inr rfl)
                  rw [if_pos rfl] at hun
                  have HUN2 := hide hun
                  clear hun hst2
                  cases id with
                  | true =>
                    go_wp2_with fail
                    go_roundw
                    case rel => first | exact ⟨j + 2, by first | rfl | simp | (simp; omega), by omega, by rw [← hF]; rfl, by show Row _ W4.heap.size 35 4 _ (untold N rs (j + 1)).length (flat4 (untold N rs (j + 1))); rw [unhide HUN2]; exact unhide HRWc, (unhide HW).trans (((unhide HB5).mono hszw).trans ((unhide HBc).mono (by omega)))⟩ | ((repeat apply Exists.intro); refine ⟨?_, rfl⟩; exact ⟨j + 2, by first | rfl | simp | (simp; omega), by omega, by rw [← hF]; rfl, by show Row _ W4.heap.size 35 4 _ (untold N rs (j + 1)).length (flat4 (untold N rs (j + 1))); rw [unhide HUN2]; exact unhide HRWc, (unhide HW).trans (((unhide HB5).mono hszw).trans ((unhide HBc).mono (by omega)))⟩)
                    case measure => first | (simp only [intOf]; omega) | (simp [intOf]; omega)
                  | false =>
                    go_wp2_with fail
                    go_roundw
                    case rel => first | exact ⟨j + 2, by first | rfl | simp | (simp; omega), by omega, by rw [← hF]; rfl, by show Row _ W4.heap.size 35 4 _ (untold N rs (j + 1)).length (flat4 (untold N rs (j + 1))); rw [unhide HUN2]; exact unhide HRWc, (unhide HW).trans (((unhide HB5).mono hszw).trans ((unhide HBc).mono (by omega)))⟩ | ((repeat apply Exists.intro); refine ⟨?_, rfl⟩; exact ⟨j + 2, by first | rfl | simp | (simp; omega), by omega, by rw [← hF]; rfl, by show Row _ W4.heap.size 35 4 _ (untold N rs (j + 1)).length (flat4 (untold N rs (j + 1))); rw [unhide HUN2]; exact unhide HRWc, (unhide HW).trans (((unhide HB5).mono hszw).trans ((unhide HBc).mono (by omega)))⟩)
                    case measure => first | (simp only [intOf]; omega) | (simp [intOf]; omega)
                | false =>
                  rw [hTD] at hst2 hun
                  rw [if_neg (by simp)] at hun
                  have HUN2 := hide hun
                  have hFG : (F == G) = id := by
                    rw [Bool.eq_iff_iff, beq_iff_eq, unhide HIDK]
                    exact ⟨fun e => (hst2.1 e).elim (fun h => h) (fun h => by cases h), fun e => hst2.2 (.inl e)⟩
                  clear hun hst2
                  cases id with
                  | true =>
                    go_wp2_with (at_builtin; refine unhide ?_)
                    refine hide ?_
                    refine wpList_append_own _ rfl _ _ 23 rfl W4.heap.size 35 iR _ 4 32 Try.underlying23 hi1 hy0 hy1 hy2 rfl (by decide) _ _ _ rfl ((unhide HRWc).alloc _) _ 1 1 ([K, A, B, M].map (Value.int .i64)) rfl rfl (by first | exact news_cells _ _ rfl | exact news_cells _ _ (by simp) | exact news_drew _ _ (by simp)) ints_one (by have := untold_len N rs j; unfold maxLen; omega) (by have := untold_len N rs j; omega) (by simp; omega) ?_
                    intro v' wz hown' hgrow _
                    have R := hide (own_more (wr := wr) (news := [K, A, B, M]) (by repeat (first | exact Below.refl _ _ | refine Below.alloc ?_ (by first | omega | (simp; omega)) _ | refine Below.drew ?_)) (by simp; omega) (unhide HRWc) hown' hgrow)
                    clear hown' hgrow
                    go_wp2_with fail
                    go_roundw
                    case rel => first | exact ⟨j + 2, by first | rfl | simp | (simp; omega), by omega, by rw [← hF]; rfl, by show Row _ W4.heap.size 35 4 _ (untold N rs (j + 1)).length (flat4 (untold N rs (j + 1))); rw [unhide HUN2, List.length_append, flat4_append]; exact (unhide R).1, ((unhide HW).trans (((unhide HB5).mono hszw).trans ((unhide HBc).mono (by omega)))).trans (unhide R).2⟩ | ((repeat apply Exists.intro); refine ⟨?_, rfl⟩; exact ⟨j + 2, by first | rfl | simp | (simp; omega), by omega, by rw [← hF]; rfl, by show Row _ W4.heap.size 35 4 _ (untold N rs (j + 1)).length (flat4 (untold N rs (j + 1))); rw [unhide HUN2, List.length_append, flat4_append]; exact (unhide R).1, ((unhide HW).trans (((unhide HB5).mono hszw).trans ((unhide HBc).mono (by omega)))).trans (unhide R).2⟩)
                    case measure => first | (simp only [intOf]; omega) | (simp [intOf]; omega)
                  | false =>
                    go_wp2_with (at_builtin; refine unhide ?_)
                    refine hide ?_
                    refine wpList_append_own _ rfl _ _ 23 rfl W4.heap.size 35 iR _ 4 32 Try.underlying23 hi1 hy0 hy1 hy2 rfl (by decide) _ _ _ rfl ((unhide HRWc).alloc _) _ 1 1 ([K, A, B, M].map (Value.int .i64)) rfl rfl (by first | exact news_cells _ _ rfl | exact news_cells _ _ (by simp) | exact news_drew _ _ (by simp)) ints_one (by have := untold_len N rs j; unfold maxLen; omega) (by have := untold_len N rs j; omega) (by simp; omega) ?_
                    intro v' wz hown' hgrow _
                    have R := hide (own_more (wr := wr) (news := [K, A, B, M]) (by repeat (first | exact Below.refl _ _ | refine Below.alloc ?_ (by first | omega | (simp; omega)) _ | refine Below.drew ?_)) (by simp; omega) (unhide HRWc) hown' hgrow)
                    clear hown' hgrow
                    go_wp2_with fail
                    go_roundw
                    case rel => first | exact ⟨j + 2, by first | rfl | simp | (simp; omega), by omega, by rw [← hF]; rfl, by show Row _ W4.heap.size 35 4 _ (untold N rs (j + 1)).length (flat4 (untold N rs (j + 1))); rw [unhide HUN2, List.length_append, flat4_append]; exact (unhide R).1, ((unhide HW).trans (((unhide HB5).mono hszw).trans ((unhide HBc).mono (by omega)))).trans (unhide R).2⟩ | ((repeat apply Exists.intro); refine ⟨?_, rfl⟩; exact ⟨j + 2, by first | rfl | simp | (simp; omega), by omega, by rw [← hF]; rfl, by show Row _ W4.heap.size 35 4 _ (untold N rs (j + 1)).length (flat4 (untold N rs (j + 1))); rw [unhide HUN2, List.length_append, flat4_append]; exact (unhide R).1, ((unhide HW).trans (((unhide HB5).mono hszw).trans ((unhide HBc).mono (by omega)))).trans (unhide R).2⟩)
                    case measure => first | (simp only [intOf]; omega) | (simp [intOf]; omega)
      · have iz : decide ((i : Int) ≤ (rs.length : Int)) = false := decide_eq_false (by omega)
        have en : i = rs.length + 1 := by omega
        subst en
        rw [Nat.add_sub_cancel] at *
        have hRU : ∃ pr, (untold N rs rs.length).length ≠ 0 → ur = some ⟨pr, 0, none⟩ ∧ pr < wr.heap.size ∧ RusAt wr pr 0 (untold N rs rs.length) := by
          by_cases h0 : (untold N rs rs.length).length = 0
          · exact ⟨0, fun hh => absurd h0 hh⟩
          · obtain ⟨g2, h1, _, h3, h4⟩ := unhide HFO h0
            exact ⟨g2, fun _ => ⟨h1, h3, rusAt_ints4 h4⟩⟩
        obtain ⟨pr, hRU⟩ := hRU
        have hul := untold_len N rs rs.length
        have HLA := hide (freeP_any (N : Int) ur pr 0 (untold N rs rs.length).length cr (untold N rs rs.length) wr rfl (by omega) hRU)
        rw [unhide HF2, unhide HF3, unhide HF4] at HLA
        clear hRU
        go_wp2_with fail
        refine (unhide HLA).mono ?_
        rintro e W6 ⟨v6, rfl, hrow6, hb6⟩
        obtain ⟨ur6, cr6, rfl, _⟩ := hrow6.form
        have HB6 := hide (bc (unhide HB1) (bc (unhide HB4) (bc (unhide HW) hb6)))
        have g1 : ((frTo N rs rs.length).1.2 == outF (N : Int) rs) = true := by rw [unhide HOF2]; simp
        clear hb6 hrow6
        go_wp2_with fail
        go_ret
        exact ⟨rfl, unhide HB6⟩
  · have hC1 : (outC (N : Int) rs != 0) = true := by simp [hC]
    go_wp2_with fail
    go_ret
    exact ⟨rfl, bc (unhide HB1) (unhide HB4)⟩
end Go.Proofs.Ytchdmigeopmacaa
