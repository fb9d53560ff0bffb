/-
  The program's bound.
-/
import Derived.Test.YtbgekppggakdoaaBdMath
import Derived.Test.YtbgekppggakdoaaPnC
import Derived.Test.YtbgekppggakdoaaBdM
namespace Go.Proofs.Ytbgekppggakdoaa
open Go.ChangeShapes Go.WideShapes Go.ChangeAt Go.RowKit
set_option linter.unusedVariables false
set_option linter.unusedSimpArgs false

set_option maxHeartbeats 1000000 in
theorem shc_any (N S L : Int) (u : Option Addr) (p po n c : Nat) (J : List Jb) (w : World) (hl : J.length = n) (hn : n ≤ 9223372036854775807) (hu : Jbs w u p po J) :
    Calls Try.prog 47 #[.agg #[.int .i64 N, .int .i64 S, .int .i64 L], .slice u n c] w fun e w' => e = .returned (.int .i64 (bdC N S L J)) ∧ Below w.heap.size w w' := by
  have HB0 := hide (ba (Below.refl w.heap.size w) (.cells #[.int .i64 N, .int .i64 S, .int .i64 L] 27))
  have HC := hide (fun X (hX : Below w.heap.size w X) => shP_any N S L u p po n c J X hl hn (hu.bel hX))
  have n0 : (0 : Int) ≤ (n : Int) := Int.natCast_nonneg _
  by_cases h1 : 4096 < n
  · have t1 : decide ((4096 : Int) < (n : Int)) = true := decide_eq_true (by omega)
    have e2 : bdC N S L J = 2 := by unfold bdC; rw [if_pos (by omega)]
    rw [e2]
    clear hu hl e2
    go_enter Try.func47, Try.ntmps47
    go_wp2_with fail
    go_ret
    exact ⟨rfl, unhide HB0⟩
  have t1 : decide ((4096 : Int) < (n : Int)) = false := decide_eq_false (by omega)
  have e2 : bdC N S L J = if shOk N S L J = true then 0 else 1 := by unfold bdC; rw [if_neg (by omega)]
  rw [e2]
  generalize shOk N S L J = bb at *
  clear hu hl e2
  cases bb <;>
  · go_enter Try.func47, Try.ntmps47
    go_wp2_with fail
    refine (unhide HC _ (unhide HB0)).mono ?_
    rintro e W1 ⟨rfl, hb⟩
    have HB1 := hide (bc (unhide HB0) hb)
    clear hb
    go_wp2_with fail
    go_ret
    exact ⟨rfl, unhide HB1⟩
set_option maxHeartbeats 1000000 in
theorem maxI_any (g n c : Nat) (f : Nat → Int) (w : World) (hn : 1 ≤ n) (hm : n ≤ 1048576) (hg : ∀ i, i < n → w.cell? ⟨g, i, none⟩ = some (.int .i64 (f i))) :
    Calls Try.prog 48 #[.slice (some ⟨g, 0, none⟩) n c] w fun e w' => e = .returned (.int .i64 (top (f 0) f n)) ∧ w' = w := by
  have HG := hide hg
  have x0 := hg 0 (by omega)
  have t1 : decide ((n : Int) < 1) = false := decide_eq_false (by omega)
  have n0 : (0 : Int) < (n : Int) := by omega
  clear hg
  go_enter Try.func48, Try.ntmps48
  go_wp2_with fail
  go_loopw [3, 4] (fun b s W => ∃ k : Nat, b = .int .i64 (top (f 0) f k) ∧ s = .int .i64 (k : Int) ∧ k ≤ n ∧ 1 ≤ k ∧ W = w) (fun _ s _ => n - (intOf s).toNat)
  case atStart => exact ⟨1, by simp [top], rfl, hn, Nat.le_refl _, rfl⟩
  case round =>
    obtain ⟨k, rfl, rfl, hk, hk1, rfl⟩ := hrel
    have k0 : (0 : Int) ≤ (k : Int) := Int.natCast_nonneg _
    by_cases hkm : k < n
    · have kz : decide ((k : Int) < (n : Int)) = true := decide_eq_true (by omega)
      have k1 : (k : Int) < (n : Int) := by omega
      have y0 := unhide HG k hkm
      have HT := hide (top_succ (f 0) f k)
      go_wp2_with fail
      go_roundw
      case rel => exact ⟨k + 1, by rw [unhide HT], by simp, hkm, by omega, by first | rfl | trivial⟩
      case measure => first | (simp only [intOf]; omega) | (simp [intOf]; omega)
    · have kz : decide ((k : Int) < (n : Int)) = false := decide_eq_false (by omega)
      have kq : ¬ ((k : Int) < (n : Int)) := by omega
      have hke : n = k := by omega
      subst hke
      go_wp2_with fail
      go_ret
      exact ⟨rfl, rfl⟩
/-- loads, used tools and the shop in the program's memory -/
structure Pb (W : World) (B gl gu : Nat) (N S L : Int) (b : Bs) : Prop where
  ld : iblk W gl 94 (tab 6 b.f)
  us : vb W gu 96 ((tab 60 b.g).map Value.bool)
  sh : vb W B 27 [.int .i64 N, .int .i64 S, .int .i64 L]
theorem Pb.bel {W W' : World} {B gl gu : Nat} {N S L : Int} {b : Bs} (h : Pb W B gl gu N S L b) (hb : Below W.heap.size W W') : Pb W' B gl gu N S L b := ⟨h.ld.bel hb, h.us.bel hb, h.sh.bel hb⟩
theorem Pb.load {W : World} {B gl gu : Nat} {N S L : Int} {b : Bs} (h : Pb W B gl gu N S L b) (h1 : gl ≠ gu) (h2 : gl ≠ B) (k : Nat) (x : Int) : Pb (W.setCell ⟨gl, k, none⟩ (.int .i64 x)) B gl gu N S L ⟨upd b.f k x, b.g⟩ := by
  refine ⟨?_, h.us.ne (fun e => h1 e.symm), h.sh.ne (fun e => h2 e.symm)⟩
  rw [← tab_set]
  exact h.ld.set k x
theorem Pb.use {W : World} {B gl gu : Nat} {N S L : Int} {b : Bs} (h : Pb W B gl gu N S L b) (h1 : gl ≠ gu) (h2 : gu ≠ B) (k : Nat) : Pb (W.setCell ⟨gu, k, none⟩ (.bool true)) B gl gu N S L ⟨b.f, upd b.g k true⟩ := by
  refine ⟨h.ld.ne h1, ?_, h.sh.ne (fun e => h2 e.symm)⟩
  rw [← tab_set, List.map_set]
  exact h.us.set k (.bool true)
set_option maxRecDepth 100000 in
set_option maxHeartbeats 16000000 in
theorem bdP_any (N S L : Int) (u : Option Addr) (p po n c : Nat) (J : List Jb) (w : World) (hl : J.length = n) (hn : n ≤ 9223372036854775807) (hu : Jbs w u p po J) :
    Calls Try.prog 26 #[.agg #[.int .i64 N, .int .i64 S, .int .i64 L], .slice u n c] w fun e w' => e = .returned (.tuple #[.int .i64 (bdV N S L J), .int .i64 (bdC N S L J)]) ∧ Below w.heap.size w w' := by
  have HB0 := hide (ba (Below.refl w.heap.size w) (.cells #[.int .i64 N, .int .i64 S, .int .i64 L] 27))
  have HV := hide (vb_new w 27 [.int .i64 N, .int .i64 S, .int .i64 L] w.heap.size rfl)
  have HU := hide (fun X (hX : Below w.heap.size w X) => hu.bel hX)
  have HC := hide (fun X (hX : Below w.heap.size w X) => shc_any N S L u p po n c J X hl hn (hu.bel hX))
  have n0 : (0 : Int) ≤ (n : Int) := Int.natCast_nonneg _
  by_cases hbd : 4096 < J.length ∨ shOk N S L J = false
  · have e1 : bdV N S L J = 0 := by
      unfold bdV
      rcases hbd with h | h
      · rw [if_pos h]
      · split
        · rfl
        · rw [h, if_neg (by simp)]
    have e2 : bdC N S L J ≠ 0 := by
      unfold bdC
      rcases hbd with h | h
      · rw [if_pos h]; decide
      · split
        · decide
        · rw [h, if_neg (by simp)]; decide
    rw [e1]
    generalize bdC N S L J = cc at *
    have cz : (cc != 0) = true := by simp [e2]
    clear hu hl e1 e2 hbd
    go_enter Try.func26, Try.ntmps26
    go_wp2_with fail
    refine (unhide HC _ (unhide HB0)).mono ?_
    rintro e W1 ⟨rfl, hb⟩
    have HB1 := hide (bc (unhide HB0) hb)
    clear hb
    go_wp2_with fail
    exact bodyPost_ret (v := .tuple #[.int .i64 0, .int .i64 cc]) (by simp [results, Try.results26, go_sem]) rfl ⟨rfl, unhide HB1⟩
  have hln : ¬ 4096 < J.length := fun h => hbd (.inl h)
  have hsh : shOk N S L J = true := by cases h : shOk N S L J with | true => rfl | false => exact absurd (.inr h) hbd
  obtain ⟨⟨N1, N2⟩, ⟨S1, S2⟩, ⟨L1, L2⟩, hJ20, hJok, hnd⟩ := shOk_iff.1 hsh
  have e1 : bdV N S L J = top (bsj J) (bal S J).f 6 := by
    unfold bdV; rw [if_neg hln, if_pos hsh]
    have hb0 := bsj_bd hJok J.length (Nat.le_refl _)
    have hk := Bk.jobs (S := S) ⟨S1, S2⟩ hJok J.length (Nat.le_refl _)
    rw [List.take_length] at hb0 hk
    exact (top_zero _ _ _ 6 hb0.1 (by omega) (fun i hi => hk.zr i (by omega))).symm
  have e2 : bdC N S L J = 0 := by unfold bdC; rw [if_neg hln, if_pos hsh]
  rw [e1, e2]
  rw [e2] at HC
  have HL := hide hl
  have HJ := hide hJok
  have n20 : n ≤ 20 := by rw [← hl]; exact hJ20
  clear hu hl e1 e2 hsh hnd hJok hbd hln
  go_enter Try.func26, Try.ntmps26
  go_wp2_with fail
  refine (unhide HC _ (unhide HB0)).mono ?_
  rintro e W1 ⟨rfl, hb⟩
  have v1 := (unhide HV).bel hb
  have vl := v1.lt
  have HV1 := hide v1
  have HB1 := hide (bc (unhide HB0) hb)
  clear hb v1
  go_wp2_with fail
  have HM0 : Hid (Pb ((W1.alloc (.cells #[.int .i64 0, .int .i64 0, .int .i64 0, .int .i64 0, .int .i64 0, .int .i64 0] 94)).alloc (.cells (Array.replicate 60 (.bool false)) 96)) w.heap.size W1.heap.size (W1.heap.size + 1) N S L ⟨fun _ => 0, fun _ => false⟩) := hide ⟨(iblk_new W1 94 [0, 0, 0, 0, 0, 0]).bel (ba (Below.refl _ _) _), vb_new _ 96 (List.replicate 60 (.bool false)) _ (by simp), ((unhide HV1).bel (ba (Below.refl _ _) _)).bel (ba (Below.refl _ _) _)⟩
  have HB2 := hide (ba (ba (unhide HB1) (.cells #[.int .i64 0, .int .i64 0, .int .i64 0, .int .i64 0, .int .i64 0, .int .i64 0] 94)) (.cells (Array.replicate 60 (.bool false)) 96))
  have HG : Hid (w.heap.size < W1.heap.size) := hide vl
  clear HV HV1 HC HB0 HB1
  generalize hgl : W1.heap.size = gl at *
  go_loopw [7, 11, 12, 14, 23] (fun b _ _ _ s W => ∃ i : Nat, b = .int .i64 (bsj (J.take i)) ∧ s = .int .i64 (i : Int) ∧ i ≤ n ∧ Pb W w.heap.size gl (gl + 1) N S L (bal S (J.take i)) ∧ Below w.heap.size w W) (fun _ _ _ _ s _ => n - (intOf s).toNat)
  case atStart => exact ⟨0, rfl, rfl, Nat.zero_le _, unhide HM0, unhide HB2⟩
  case round =>
    obtain ⟨i, rfl, rfl, hi, hm, hb⟩ := hrel
    have HM := hide hm
    have HB := hide hb
    have HBS := hide (bsj_bd (unhide HJ) i (by rw [unhide HL]; exact hi))
    have HBK := hide (Bk.jobs (S := S) ⟨S1, S2⟩ (unhide HJ) i (by rw [unhide HL]; exact hi))
    clear hm hgl
    have i0 : (0 : Int) ≤ (i : Int) := Int.natCast_nonneg _
    by_cases h : i < n
    rotate_left
    · have iz : decide ((i : Int) < (n : Int)) = false := decide_eq_false (by omega)
      have iq : ¬ ((i : Int) < (n : Int)) := by omega
      have HTJ : Hid (J.take i = J) := hide (List.take_of_length_le (by rw [unhide HL]; omega))
      rw [unhide HTJ] at HM HBS HBK ⊢
      have HX := hide (maxI_any gl 6 6 (bal S J).f wr (by omega) (by omega) (fun i hi => (unhide HM).ld.cell (tab_at _ hi)))
      have HTM := hide (top_max (bsj J) (bal S J).f 6 (by omega))
      clear hb
      go_wp2_with fail
      refine (unhide HX).mono ?_
      rintro e W9 ⟨rfl, rfl⟩
      go_wp2_with fail
      exact bodyPost_ret (v := .tuple #[.int .i64 (max (bsj J) (top ((bal S J).f 0) (bal S J).f 6)), .int .i64 0]) (by simp [results, Try.results26, go_sem]) rfl ⟨by rw [unhide HTM], unhide HB⟩
    have i1 : (i : Int) < (n : Int) := by omega
    have iz : decide ((i : Int) < (n : Int)) = true := decide_eq_true i1
    obtain ⟨j, hx⟩ := get_some (unhide HL) h
    have hjo := (unhide HU _ hb).each j (List.mem_of_getElem? hx)
    have HJO := hide (fun X (hX : Below wr.heap.size wr X) => hjo.bel hX)
    have hjk := unhide HJ j (List.mem_of_getElem? hx)
    have HJK := hide hjk
    have hsn : j.st.length = j.sn := hjo.len
    have HSN := hide hsn
    have h8 := jbOk_len hjk
    rw [hsn] at h8
    have s0 : (0 : Int) ≤ (j.sn : Int) := Int.natCast_nonneg _
    obtain ⟨rfl, pw0, l0, l1, l2⟩ := (unhide HU _ hb).at hx
    have HX := hide hx
    have HM1 := hide ((unhide HM).bel (ba (Below.refl _ _) (.cells #[.string j.nm, .int .i64 j.due, .slice j.su j.sn j.sc] 58)))
    have HB1 := hide (ba (unhide HB) (.cells #[.string j.nm, .int .i64 j.due, .slice j.su j.sn j.sc] 58))
    clear hx hb hjo hjk hsn
    go_wp2_with fail
    go_loopw [12, 14, 30] (fun z _ s W => ∃ k : Nat, z = .int .i64 (tsm (j.st.take k)) ∧ s = .int .i64 (k : Int) ∧ k ≤ j.sn ∧ Pb W w.heap.size gl (gl + 1) N S L (bjb S (bal S (J.take i)) (j.st.take k)) ∧ Below w.heap.size w W) (fun _ _ s _ => j.sn - (intOf s).toNat)
    case atStart => exact ⟨0, rfl, rfl, Nat.zero_le _, unhide HM1, unhide HB1⟩
    case round =>
      obtain ⟨k, rfl, rfl, hk, hm, hb⟩ := hrel
      have HM2 := hide hm
      have HB2 := hide hb
      have k0 : (0 : Int) ≤ (k : Int) := Int.natCast_nonneg _
      by_cases hks : k < j.sn
      rotate_left
      · have kz : decide ((k : Int) < (j.sn : Int)) = false := decide_eq_false (by omega)
        have kq : ¬ ((k : Int) < (j.sn : Int)) := by omega
        have HTK : Hid (j.st.take k = j.st) := hide (List.take_of_length_le (by rw [unhide HSN]; omega))
        clear hb hm
        go_wp2_with fail
        go_roundw
        case rel =>
          refine ⟨i + 1, by rw [bsj_take (unhide HX), unhide HTK], by simp, h, ?_, unhide HB2⟩
          rw [bal_take S (unhide HX)]
          have := unhide HM2
          rwa [unhide HTK] at this
        case measure => first | (simp only [intOf]; omega) | (simp [intOf]; omega)
      have k1 : (k : Int) < (j.sn : Int) := by omega
      have kz : decide ((k : Int) < (j.sn : Int)) = true := decide_eq_true k1
      obtain ⟨s, hxs⟩ := get_some (unhide HSN) hks
      have hjo := (unhide HU _ hb).each j (List.mem_of_getElem? (unhide HX))
      obtain ⟨hsu, pw3, q0, q1, q2, q3⟩ := hjo.at hxs
      obtain ⟨a1, a2, a3, a4, a5, a6, a7, a8⟩ := jbOk_st (unhide HJK) (List.mem_of_getElem? hxs)
      obtain ⟨b1, b2⟩ := tsm_bd (unhide HJK) k (by rw [unhide HSN]; omega)
      have hbk := (Bk.run (T := j.st) ⟨S1, S2⟩ (fun s hs => jbOk_st (unhide HJK) hs) (unhide HBK) k (by rw [unhide HSN]; omega))
      have HXS := hide hxs
      clear hjo hxs
      rw [hsu]
      generalize hbb : bjb S (bal S (J.take i)) (j.st.take k) = bb at *
      have HBB := hide hbb
      clear hbb
      obtain ⟨sm, st, sl, se⟩ := s
      simp only [] at a1 a2 a3 a4 a5 a6 a7 a8 q0 q1 q2 q3
      obtain ⟨mm, rfl⟩ := Int.eq_ofNat_of_zero_le a1
      obtain ⟨ll, rfl⟩ := Int.eq_ofNat_of_zero_le a5
      have f1 := hbk.lo mm
      have f2 := hbk.hi mm
      have x0 := hm.ld.cell (tab_at bb.f (show mm < 6 by omega))
      have fz0 : ∀ o, wr.frozen? ⟨gl, o, none⟩ = false := hm.ld.frozen
      have fz1 : ∀ o, wr.frozen? ⟨gl + 1, o, none⟩ = false := hm.us.frozen
      have x1 := hm.us.cell (m := mm * 10 + ll) (x := .bool (bb.g (10 * mm + ll))) (by rw [List.getElem?_map, tab_at bb.g (by omega), Nat.mul_comm mm 10]; rfl)
      have x2 := hm.sh.cell (m := 1) rfl
      have x3 := hm.ld.lt
      have x4 := hm.us.lt
      have x5 := hm.sh.lt
      have vl := unhide HG
      have m6 : (mm : Int) < 6 := by omega
      have m6' : mm < 6 := by omega
      have l10 : (ll : Int) < 10 := by omega
      have l10' : ll < 10 := by omega
      have w1 : IntKind.i64.wrap (tsm (j.st.take k) + st) = tsm (j.st.take k) + st := wrap_i (by omega) (by omega)
      have w2 : IntKind.i64.wrap (bb.f mm + st) = bb.f mm + st := wrap_i (by omega) (by omega)
      have w3 : IntKind.i64.wrap (bb.f mm + st + S) = bb.f mm + st + S := wrap_i (by omega) (by omega)
      generalize hbf : bb.f mm = bf at *
      have HBF := hide hbf
      generalize hts : tsm (j.st.take k) = ts at *
      have HTS := hide hts
      clear hbf hts hm hb hbk
      go_wp2_with fail
      go_region
      cases hq : bb.g (10 * mm + ll) with
      | true =>
        rw [hq] at x1
        have HQ := hide hq
        clear hq
        go_wp2_with fail
        go_region
        go_wp2_with fail
        go_roundw
        case rel =>
          refine ⟨k + 1, by rw [tsm_take (unhide HXS), unhide HTS], by simp, hks, ?_, ?_⟩
          · rw [bjb_take S _ (unhide HXS), unhide HBB, bst_true (unhide HQ), unhide HBF]
            have r := ((unhide HM2).load (by omega) (by omega) mm (bf + st)).bel (ba (Below.refl _ _) (.cells #[.int .i64 (mm : Int), .int .i64 st, .int .i64 (ll : Int), .int .i64 se] 61))
            exact ⟨r.1, r.2, r.3⟩
          · repeat (first | exact ba (Below.setCell (unhide HB2) (Nat.le_of_lt vl) _) _ | refine Below.drew ?_)
        case measure => first | (simp only [intOf]; omega) | (simp [intOf]; omega)
      | false =>
        rw [hq] at x1
        have HQ := hide hq
        clear hq
        go_wp2_with fail
        go_region
        go_wp2_with fail
        go_region
        go_wp2_with fail
        go_region
        go_wp2_with fail
        go_roundw
        case rel =>
          refine ⟨k + 1, by rw [tsm_take (unhide HXS), unhide HTS], by simp, hks, ?_, ?_⟩
          · rw [bjb_take S _ (unhide HXS), unhide HBB, bst_false (unhide HQ), unhide HBF, Nat.mul_comm 10 mm]
            have r := ((((unhide HM2).load (by omega) (by omega) mm (bf + st)).use (by omega) (by omega) (mm * 10 + ll)).load (by omega) (by omega) mm (bf + st + S)).bel (ba (Below.refl _ _) (.cells #[.int .i64 (mm : Int), .int .i64 st, .int .i64 (ll : Int), .int .i64 se] 61))
            exact ⟨r.1, r.2, r.3⟩
          · repeat (first | exact (ba (Below.setCell (Below.setCell (Below.setCell (unhide HB2) (Nat.le_of_lt vl) _) (by simp only; omega) _) (Nat.le_of_lt vl) _) _) | refine Below.drew ?_)
        case measure => first | (simp only [intOf]; omega) | (simp [intOf]; omega)
end Go.Proofs.Ytbgekppggakdoaa
