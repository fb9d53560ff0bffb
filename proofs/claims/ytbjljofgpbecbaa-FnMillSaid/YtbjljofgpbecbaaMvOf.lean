/-
  Drawn moves over a field.
-/
import Derived.Test.YtbjljofgpbecbaaMvd
import Derived.Test.YtbjljofgpbecbaaInv2
namespace Go.Proofs.Ytbjljofgpbecbaa
open Go.ChangeShapes Go.WideShapes Go.ChangeAt Go.RowKit
set_option linter.unusedVariables false
set_option linter.unusedSimpArgs false

theorem own_mono' {w : World} {B B' t k n : Nat} {v : Value} {L : List Value} (h : w.ownsRow B t k v n L) (hB : B' ≤ B) : w.ownsRow B' t k v n L := by
  refine ⟨h.1, ?_⟩
  rcases h.2 with h1 | ⟨q, cap, cur, hv, hB2, hh, r⟩
  · exact .inl h1
  · exact .inr ⟨q, cap, cur, hv, by omega, hh, r⟩
noncomputable def reg10 (id : Nat) : Go.Code := match Try.f10.body with | some c => (regOf id c).getD .skip | none => .skip
set_option maxHeartbeats 4000000 in
set_option maxRecDepth 100000 in
theorem mo2 {s0 s1 s3 s4 s6 s7 s8 s9 s10 s11 s12 s13 s14 s15 s16 : Value} {V : World} {gS b2 Wd Hd n c : Nat} {u : Option Addr} {K_ : Act → World → Prop} (hb2 : b2 ≠ gS) (hW1 : 1 ≤ Wd) (hW : Wd ≤ 24) (hH1 : 1 ≤ Hd) (hH : Hd ≤ 24)
    (H1 : Hid (So gS gS 0 V)) (H2 : Hid (vb V b2 25 [.int .i64 (Wd : Int), .int .i64 (Hd : Int), .slice u n c]))
    (hQ : ∀ (y8 y9 y10 y11 y12 y13 y14 y15 y16 : Value) (v : Value) (ms : List Mve) (m : Nat) (W' : World), W'.ownsRow V.heap.size 36 4 v m (flat4 ms) → ms.length = m → 2 ≤ m ∧ m ≤ 100 → v ≠ .slice none 0 0 → Mv gS V W' → K_ { tmps := #[s0, s1, .pointer (some ⟨b2, 0, none⟩), s3, v, .pointer (some ⟨gS, 0, none⟩), s6, s7, y8, y9, y10, y11, y12, y13, y14, y15, y16], defers := [] } W') :
    Go.Code.wp Try.prog (reg10 2) (Only K_) { tmps := #[s0, s1, .pointer (some ⟨b2, 0, none⟩), s3, s4, .pointer (some ⟨gS, 0, none⟩), s6, s7, s8, s9, s10, s11, s12, s13, s14, s15, s16], defers := [] } V := by
  have HQ := hide hQ
  clear hQ
  conv => arg 2; whnf
  refine wp_region_inv2 (fun Lb A W => ∃ (u0 u1 u2 u3 u4 u5 u6 u7 u8 u9 : Bool) (s : Int) (rN : Nat) (mN : Nat) (v : Value) (ms : List Mve), Lb = #[u0, u1, u2, u3, u4, u5, u6, u7, u8, u9] ∧ A = ({ tmps := #[s0, s1, .pointer (some ⟨b2, 0, none⟩), s3, (bif u9 then v else s4), .pointer (some ⟨gS, 0, none⟩), s6, s7, (bif u0 then .pointer (some ⟨gS, 0, none⟩) else s8), (bif u1 then .agg #[.int .i64 (Wd : Int), .int .i64 (Hd : Int), .slice u n c] else s9), (bif u2 then .pointer (some ⟨gS, 0, none⟩) else s10), (bif u3 then .pointer (some ⟨gS, 0, none⟩) else s11), (bif u4 then .int .i64 (s) else s12), (bif u5 then .int .i64 (s + 6) else s13), (bif u6 then .int .i64 ((rN : Int)) else s14), (bif u7 then .int .i64 ((mN : Int)) else s15), (bif u8 then v else s16)], defers := [] } : Act) ∧ (u8 = false → So gS gS (bif u6 then 3 else 0) W ∧ Mv gS V W) ∧ (u4 = true → 1 ≤ s ∧ s ≤ 30) ∧ (u6 = true → (rN : Int) < s + 6) ∧ (u7 = true → mN = 2 + rN) ∧ (u8 = true → W.ownsRow V.heap.size 36 4 v mN (flat4 ms) ∧ ms.length = mN ∧ v ≠ .slice none 0 0 ∧ Mv gS V W) ∧ (u4 = true → u3 = true) ∧ (u5 = true → u4 = true) ∧ (u6 = true → u2 = true ∧ u5 = true) ∧ (u7 = true → u6 = true) ∧ (u8 = true → u0 = true ∧ u1 = true ∧ u7 = true) ∧ (u9 = true → u0 = true ∧ u1 = true ∧ u2 = true ∧ u3 = true ∧ u4 = true ∧ u5 = true ∧ u6 = true ∧ u7 = true ∧ u8 = true)) (by kernel_rfl) (by kernel_rfl) ?h0 ?hstep ?hend
  case h0 =>
    exact ⟨false, false, false, false, false, false, false, false, false, false, 0, 0, 0, undef, [], rfl, rfl, (fun _ => ⟨by simpa using (unhide H1).drew, (Mv.refl _ _).drew⟩), (fun h => nomatch h), (fun h => nomatch h), (fun h => nomatch h), (fun h => nomatch h), (fun h => nomatch h), (fun h => nomatch h), (fun h => nomatch h), (fun h => nomatch h), (fun h => nomatch h), (fun h => nomatch h)⟩
  case hstep =>
    rintro Lb A W ⟨u0, u1, u2, u3, u4, u5, u6, u7, u8, u9, s, rN, mN, v, ms, rfl, rfl, kS, b4, b6, b7, kZ, c4, c5, c6, c7, c8, kF⟩
    refine ⟨?_, ?_, ?_, ?_, ?_, ?_, ?_, ?_, ?_, ?_, trivial⟩
    · intro h0 hd K hK
      have z : u0 = false := h0
      have z9_ : u9 = false := by
        cases hu : u9 with
        | false => rfl
        | true => exact nomatch z.symm.trans ((kF hu).1)
      have z8_ : u8 = false := by
        cases hu : u8 with
        | false => rfl
        | true => exact nomatch z.symm.trans ((c8 hu).1)
      have H_kS := hide kS
      have H_b4 := hide b4
      have H_b6 := hide b6
      have H_b7 := hide b7
      have H_kZ := hide kZ
      have H_c4 := hide c4
      have H_c5 := hide c5
      have H_c6 := hide c6
      have H_c7 := hide c7
      have H_c8 := hide c8
      have H_kF := hide kF
      clear kS b4 b6 b7 kZ c4 c5 c6 c7 c8 kF
      subst z9_
      subst z8_
      subst z
      clear h0 hd
      rw [if_pos (by rfl)]
      go_simp
      exact unhide hK _ _ ⟨true, u1, u2, u3, u4, u5, u6, u7, false, false, s, rN, mN, v, ms, rfl, rfl, unhide H_kS, unhide H_b4, unhide H_b6, unhide H_b7, (fun h => nomatch h), unhide H_c4, unhide H_c5, unhide H_c6, unhide H_c7, (fun h => nomatch h), (fun h => nomatch h)⟩
    · intro h0 hd K hK
      have z : u1 = false := h0
      have z9_ : u9 = false := by
        cases hu : u9 with
        | false => rfl
        | true => exact nomatch z.symm.trans ((kF hu).2.1)
      have z8_ : u8 = false := by
        cases hu : u8 with
        | false => rfl
        | true => exact nomatch z.symm.trans ((c8 hu).2.1)
      have H_kS := hide kS
      have H_b4 := hide b4
      have H_b6 := hide b6
      have H_b7 := hide b7
      have H_kZ := hide kZ
      have H_c4 := hide c4
      have H_c5 := hide c5
      have H_c6 := hide c6
      have H_c7 := hide c7
      have H_c8 := hide c8
      have H_kF := hide kF
      clear kS b4 b6 b7 kZ c4 c5 c6 c7 c8 kF
      subst z9_
      subst z8_
      subst z
      clear h0 hd
      rw [if_pos (by rfl)]
      have v1 := (unhide H2).mv (unhide H_kS rfl).2 hb2
      have q0 := v1.cell (m := 0) rfl
      have q1 := v1.cell (m := 1) rfl
      have q2 := v1.cell (m := 2) rfl
      clear v1
      go_simp
      exact unhide hK _ _ ⟨u0, true, u2, u3, u4, u5, u6, u7, false, false, s, rN, mN, v, ms, rfl, rfl, unhide H_kS, unhide H_b4, unhide H_b6, unhide H_b7, (fun h => nomatch h), unhide H_c4, unhide H_c5, unhide H_c6, unhide H_c7, (fun h => nomatch h), (fun h => nomatch h)⟩
    · intro h0 hd K hK
      have z : u2 = false := h0
      have z9_ : u9 = false := by
        cases hu : u9 with
        | false => rfl
        | true => exact nomatch z.symm.trans ((kF hu).2.2.1)
      have z8_ : u8 = false := by
        cases hu : u8 with
        | false => rfl
        | true => exact nomatch z.symm.trans ((c6 (c7 (c8 hu).2.2)).1)
      have H_kS := hide kS
      have H_b4 := hide b4
      have H_b6 := hide b6
      have H_b7 := hide b7
      have H_kZ := hide kZ
      have H_c4 := hide c4
      have H_c5 := hide c5
      have H_c6 := hide c6
      have H_c7 := hide c7
      have H_c8 := hide c8
      have H_kF := hide kF
      clear kS b4 b6 b7 kZ c4 c5 c6 c7 c8 kF
      subst z9_
      subst z8_
      subst z
      clear h0 hd
      rw [if_pos (by rfl)]
      go_simp
      exact unhide hK _ _ ⟨u0, u1, true, u3, u4, u5, u6, u7, false, false, s, rN, mN, v, ms, rfl, rfl, unhide H_kS, unhide H_b4, unhide H_b6, unhide H_b7, (fun h => nomatch h), unhide H_c4, unhide H_c5, (fun h => ⟨rfl, (unhide H_c6 h).2⟩), unhide H_c7, (fun h => nomatch h), (fun h => nomatch h)⟩
    · intro h0 hd K hK
      have z : u3 = false := h0
      have z9_ : u9 = false := by
        cases hu : u9 with
        | false => rfl
        | true => exact nomatch z.symm.trans ((kF hu).2.2.2.1)
      have z8_ : u8 = false := by
        cases hu : u8 with
        | false => rfl
        | true => exact nomatch z.symm.trans ((c4 (c5 (c6 (c7 (c8 hu).2.2)).2)))
      have H_kS := hide kS
      have H_b4 := hide b4
      have H_b6 := hide b6
      have H_b7 := hide b7
      have H_kZ := hide kZ
      have H_c4 := hide c4
      have H_c5 := hide c5
      have H_c6 := hide c6
      have H_c7 := hide c7
      have H_c8 := hide c8
      have H_kF := hide kF
      clear kS b4 b6 b7 kZ c4 c5 c6 c7 c8 kF
      subst z9_
      subst z8_
      subst z
      clear h0 hd
      rw [if_pos (by rfl)]
      go_simp
      exact unhide hK _ _ ⟨u0, u1, u2, true, u4, u5, u6, u7, false, false, s, rN, mN, v, ms, rfl, rfl, unhide H_kS, unhide H_b4, unhide H_b6, unhide H_b7, (fun h => nomatch h), (fun h => rfl), unhide H_c5, unhide H_c6, unhide H_c7, (fun h => nomatch h), (fun h => nomatch h)⟩
    · intro h0 hd K hK
      have z : u4 = false := h0
      have z9_ : u9 = false := by
        cases hu : u9 with
        | false => rfl
        | true => exact nomatch z.symm.trans ((kF hu).2.2.2.2.1)
      have z5_ : u5 = false := by
        cases hu : u5 with
        | false => rfl
        | true => exact nomatch z.symm.trans ((c5 hu))
      have z6_ : u6 = false := by
        cases hu : u6 with
        | false => rfl
        | true => exact nomatch z.symm.trans ((c5 (c6 hu).2))
      have z7_ : u7 = false := by
        cases hu : u7 with
        | false => rfl
        | true => exact nomatch z.symm.trans ((c5 (c6 (c7 hu)).2))
      have z8_ : u8 = false := by
        cases hu : u8 with
        | false => rfl
        | true => exact nomatch z.symm.trans ((c5 (c6 (c7 (c8 hu).2.2)).2))
      have zd : u3 = true := by
        simp [Region.binds] at hd
        simp [hd]
      have H_kS := hide kS
      have H_b4 := hide b4
      have H_b6 := hide b6
      have H_b7 := hide b7
      have H_kZ := hide kZ
      have H_c4 := hide c4
      have H_c5 := hide c5
      have H_c6 := hide c6
      have H_c7 := hide c7
      have H_c8 := hide c8
      have H_kF := hide kF
      clear kS b4 b6 b7 kZ c4 c5 c6 c7 c8 kF
      obtain ⟨rfl⟩ := zd
      subst z9_
      subst z5_
      subst z6_
      subst z7_
      subst z8_
      subst z
      clear h0 hd
      rw [if_pos (by rfl)]
      have HSS := (unhide H_kS rfl).1
      go_simp
      refine (size_any 30 HSS (by omega) (by omega)).mono ?_
      rintro e w8 ⟨r, rfl, hr1, hr2, rfl⟩
      exact unhide hK _ _ ⟨u0, u1, u2, true, true, false, false, false, false, false, r, rN, mN, v, ms, rfl, rfl, unhide H_kS, (fun _ => ⟨hr1, hr2⟩), (fun h => nomatch h), unhide H_b7, (fun h => nomatch h), (fun _ => rfl), (fun h => nomatch h), (fun h => nomatch h), (fun h => nomatch h), (fun h => nomatch h), (fun h => nomatch h)⟩
    · intro h0 hd K hK
      have z : u5 = false := h0
      have z9_ : u9 = false := by
        cases hu : u9 with
        | false => rfl
        | true => exact nomatch z.symm.trans ((kF hu).2.2.2.2.2.1)
      have z6_ : u6 = false := by
        cases hu : u6 with
        | false => rfl
        | true => exact nomatch z.symm.trans ((c6 hu).2)
      have z7_ : u7 = false := by
        cases hu : u7 with
        | false => rfl
        | true => exact nomatch z.symm.trans ((c6 (c7 hu)).2)
      have z8_ : u8 = false := by
        cases hu : u8 with
        | false => rfl
        | true => exact nomatch z.symm.trans ((c6 (c7 (c8 hu).2.2)).2)
      have zd : u4 = true := by
        simp [Region.binds] at hd
        simp [hd]
      have H_kS := hide kS
      have H_b4 := hide b4
      have H_b6 := hide b6
      have H_b7 := hide b7
      have H_kZ := hide kZ
      have H_c4 := hide c4
      have H_c5 := hide c5
      have H_c6 := hide c6
      have H_c7 := hide c7
      have H_c8 := hide c8
      have H_kF := hide kF
      clear kS b4 b6 b7 kZ c4 c5 c6 c7 c8 kF
      obtain ⟨rfl⟩ := zd
      subst z9_
      subst z6_
      subst z7_
      subst z8_
      subst z
      clear h0 hd
      rw [if_pos (by rfl)]
      have hb := unhide H_b4 rfl
      have ww : IntKind.i64.wrap (s + 6) = s + 6 := wrap_i (by omega) (by omega)
      go_simp
      exact unhide hK _ _ ⟨u0, u1, u2, u3, true, true, false, false, false, false, s, rN, mN, v, ms, rfl, rfl, unhide H_kS, unhide H_b4, unhide H_b6, unhide H_b7, (fun h => nomatch h), unhide H_c4, (fun _ => rfl), (fun h => nomatch h), (fun h => nomatch h), (fun h => nomatch h), (fun h => nomatch h)⟩
    · intro h0 hd K hK
      have z : u6 = false := h0
      have z9_ : u9 = false := by
        cases hu : u9 with
        | false => rfl
        | true => exact nomatch z.symm.trans ((kF hu).2.2.2.2.2.2.1)
      have z7_ : u7 = false := by
        cases hu : u7 with
        | false => rfl
        | true => exact nomatch z.symm.trans ((c7 hu))
      have z8_ : u8 = false := by
        cases hu : u8 with
        | false => rfl
        | true => exact nomatch z.symm.trans ((c7 (c8 hu).2.2))
      have zd : u2 = true ∧ u5 = true := by
        simp [Region.binds] at hd
        simp [hd]
      have H_kS := hide kS
      have H_b4 := hide b4
      have H_b6 := hide b6
      have H_b7 := hide b7
      have H_kZ := hide kZ
      have H_c4 := hide c4
      have H_c5 := hide c5
      have H_c6 := hide c6
      have H_c7 := hide c7
      have H_c8 := hide c8
      have H_kF := hide kF
      clear kS b4 b6 b7 kZ c4 c5 c6 c7 c8 kF
      obtain ⟨rfl, rfl⟩ := zd
      subst z9_
      subst z7_
      subst z8_
      subst z
      clear h0 hd
      rw [if_pos (by rfl)]
      have hb := unhide H_b4 (unhide H_c5 rfl)
      have HSS := unhide H_kS rfl
      simp only [cond_false] at HSS
      go_simp
      refine (next_any (k := 0) (s + 6) HSS.1 (by omega) (by omega) (by omega)).mono ?_
      rintro e w8 ⟨r, rfl, hr1, hr2, hs, mv⟩
      obtain ⟨nN, rfl⟩ := Int.eq_ofNat_of_zero_le hr1
      exact unhide hK _ _ ⟨u0, u1, true, u3, u4, true, true, false, false, false, s, nN, mN, v, ms, rfl, rfl, (fun _ => ⟨by simpa using hs, HSS.2.trans mv⟩), unhide H_b4, (fun _ => hr2), (fun h => nomatch h), (fun h => nomatch h), unhide H_c4, unhide H_c5, (fun _ => ⟨rfl, rfl⟩), (fun h => nomatch h), (fun h => nomatch h), (fun h => nomatch h)⟩
    · intro h0 hd K hK
      have z : u7 = false := h0
      have z9_ : u9 = false := by
        cases hu : u9 with
        | false => rfl
        | true => exact nomatch z.symm.trans ((kF hu).2.2.2.2.2.2.2.1)
      have z8_ : u8 = false := by
        cases hu : u8 with
        | false => rfl
        | true => exact nomatch z.symm.trans ((c8 hu).2.2)
      have zd : u6 = true := by
        simp [Region.binds] at hd
        simp [hd]
      have H_kS := hide kS
      have H_b4 := hide b4
      have H_b6 := hide b6
      have H_b7 := hide b7
      have H_kZ := hide kZ
      have H_c4 := hide c4
      have H_c5 := hide c5
      have H_c6 := hide c6
      have H_c7 := hide c7
      have H_c8 := hide c8
      have H_kF := hide kF
      clear kS b4 b6 b7 kZ c4 c5 c6 c7 c8 kF
      obtain ⟨rfl⟩ := zd
      subst z9_
      subst z8_
      subst z
      clear h0 hd
      rw [if_pos (by rfl)]
      have hb := unhide H_b6 rfl
      have hb4 := unhide H_b4 (unhide H_c5 (unhide H_c6 rfl).2)
      obtain ⟨mm, hmm⟩ : ∃ mm : Nat, 2 + rN = mm := ⟨_, rfl⟩
      have ww : IntKind.i64.wrap (2 + (rN : Int)) = (mm : Int) := (wrap_i (by omega) (by omega)).trans (by omega)
      have HMM := hide hmm
      clear hmm
      go_simp
      exact unhide hK _ _ ⟨u0, u1, u2, u3, u4, u5, true, true, false, false, s, rN, mm, v, ms, rfl, rfl, unhide H_kS, unhide H_b4, unhide H_b6, (fun _ => (unhide HMM).symm), (fun h => nomatch h), unhide H_c4, unhide H_c5, unhide H_c6, (fun _ => rfl), (fun h => nomatch h), (fun h => nomatch h)⟩
    · intro h0 hd K hK
      have z : u8 = false := h0
      have z9_ : u9 = false := by
        cases hu : u9 with
        | false => rfl
        | true => exact nomatch z.symm.trans ((kF hu).2.2.2.2.2.2.2.2)
      have zd : u0 = true ∧ u1 = true ∧ u7 = true := by
        simp [Region.binds] at hd
        simp [hd]
      have H_kS := hide kS
      have H_b4 := hide b4
      have H_b6 := hide b6
      have H_b7 := hide b7
      have H_kZ := hide kZ
      have H_c4 := hide c4
      have H_c5 := hide c5
      have H_c6 := hide c6
      have H_c7 := hide c7
      have H_c8 := hide c8
      have H_kF := hide kF
      clear kS b4 b6 b7 kZ c4 c5 c6 c7 c8 kF
      obtain ⟨rfl, rfl, rfl⟩ := zd
      subst z9_
      subst z
      clear h0 hd
      rw [if_pos (by rfl)]
      have hb7 := unhide H_b7 rfl
      have hb6 := unhide H_b6 (unhide H_c7 rfl)
      have hb4 := unhide H_b4 (unhide H_c5 (unhide H_c6 (unhide H_c7 rfl)).2)
      have HSS := unhide H_kS rfl
      have hmb : mN ≤ 100 := by omega
      have HS8 := hide HSS
      clear HSS hb7
      go_simp
      refine (moves_any (k := (bif u6 then 3 else 0)) Wd Hd n c u mN hmb hW1 hW hH1 hH (unhide HS8).1 (by cases u6 <;> simp)).mono ?_
      rintro e w8 ⟨v', ms', rfl, ho, hl, hnn, hs, mv⟩
      exact unhide hK _ _ ⟨true, true, u2, u3, u4, u5, u6, true, true, false, s, rN, mN, v', ms', rfl, rfl, (fun h => nomatch h), unhide H_b4, unhide H_b6, unhide H_b7, (fun _ => ⟨own_mono' ho (unhide HS8).2.size, hl, hnn, (unhide HS8).2.trans mv⟩), unhide H_c4, unhide H_c5, unhide H_c6, unhide H_c7, (fun _ => ⟨rfl, rfl, rfl⟩), (fun h => nomatch h)⟩
    · intro h0 hd K hK
      have z : u9 = false := h0
      have zd : u8 = true ∧ u0 = true ∧ u1 = true ∧ u2 = true ∧ u3 = true ∧ u4 = true ∧ u5 = true ∧ u6 = true ∧ u7 = true := by
        simp [Region.binds] at hd
        simp_all
      have H_kS := hide kS
      have H_b4 := hide b4
      have H_b6 := hide b6
      have H_b7 := hide b7
      have H_kZ := hide kZ
      have H_c4 := hide c4
      have H_c5 := hide c5
      have H_c6 := hide c6
      have H_c7 := hide c7
      have H_c8 := hide c8
      have H_kF := hide kF
      clear kS b4 b6 b7 kZ c4 c5 c6 c7 c8 kF
      obtain ⟨rfl, rfl, rfl, rfl, rfl, rfl, rfl, rfl, rfl⟩ := zd
      subst z
      clear h0 hd
      rw [if_pos (by rfl)]
      go_simp
      exact unhide hK _ _ ⟨true, true, true, true, true, true, true, true, true, true, s, rN, mN, v, ms, rfl, rfl, unhide H_kS, unhide H_b4, unhide H_b6, unhide H_b7, unhide H_kZ, (fun _ => rfl), (fun _ => rfl), (fun _ => ⟨rfl, rfl⟩), (fun _ => rfl), (fun _ => ⟨rfl, rfl, rfl⟩), (fun _ => ⟨rfl, rfl, rfl, rfl, rfl, rfl, rfl, rfl, rfl⟩)⟩
  case hend =>
    rintro Lb A W ⟨u0, u1, u2, u3, u4, u5, u6, u7, u8, u9, s, rN, mN, v, ms, rfl, rfl, kS, b4, b6, b7, kZ, c4, c5, c6, c7, c8, kF⟩ hL
    have hl : u0 = true ∧ u1 = true ∧ u2 = true ∧ u3 = true ∧ u4 = true ∧ u5 = true ∧ u6 = true ∧ u7 = true ∧ u8 = true ∧ u9 = true := by
      have h2 := congrArg Array.toList hL
      simpa [List.replicate] using h2
    obtain ⟨rfl, rfl, rfl, rfl, rfl, rfl, rfl, rfl, rfl, rfl⟩ := hl
    skip
    exact unhide HQ _ _ _ _ _ _ _ _ _ v ms mN W (kZ rfl).1 (kZ rfl).2.1 (by have := b7 rfl; have := b6 rfl; have := b4 rfl; omega) (kZ rfl).2.2.1 (kZ rfl).2.2.2

theorem own_mvs {X : World} {B m : Nat} {v : Value} {ms : List Mve} (h : X.ownsRow B 36 4 v m (flat4 ms)) (hn : v ≠ .slice none 0 0) : ∃ q cap, v = .slice (some ⟨q, 0, none⟩) m cap ∧ B ≤ q ∧ m ≤ cap ∧ cap ≤ 9223372036854775807 ∧ Mvs X (some ⟨q, 0, none⟩) q 0 ms := by
  have hx := h
  rcases h.2 with ⟨h1, _⟩ | ⟨q, cap, cur, rfl, hB, hh, h3, h4, _⟩
  · exact absurd h1 hn
  · refine ⟨q, cap, rfl, hB, h3, by unfold maxLen at h4; omega, fun _ => ⟨rfl, (Array.getElem?_eq_some_iff.1 hh).1, fun i l hi => ?_⟩⟩
    have hc := hx.cells (g := q) rfl
    obtain ⟨f0, f1, f2, f3⟩ := flat4_at hi
    have c0 := hc _ _ f0
    have c1 := hc _ _ f1
    have c2 := hc _ _ f2
    have c3 := hc _ _ f3
    simp only [add_none, Nat.zero_add] at c0 c1 c2 c3
    simp only [Nat.zero_add]
    exact ⟨c0, c1, c2, c3⟩
set_option maxHeartbeats 1000000 in
set_option maxRecDepth 100000 in
theorem movesOf_any (Wd Hd n c : Nat) (u a : Option Addr) (len cap : Nat) (zs : List Int) (w : World) (hW1 : 1 ≤ Wd) (hW : Wd ≤ 24) (hH1 : 1 ≤ Hd) (hH : Hd ≤ 24) (hc : ∀ X, Below w.heap.size w X → Code X.heap.size X a len cap zs) (hl : len ≤ 9223372036854775807) :
    Calls Try.prog 10 #[.agg #[.int .i64 (Wd : Int), .int .i64 (Hd : Int), .slice u n c], .slice a len cap] w fun e w' => (∃ q cq ms m, e = .returned (.slice (some ⟨q, 0, none⟩) m cq) ∧ w.heap.size ≤ q ∧ m ≤ cq ∧ cq ≤ 9223372036854775807 ∧ Mvs w' (some ⟨q, 0, none⟩) q 0 ms ∧ ms.length = m ∧ 2 ≤ m ∧ m ≤ 100) ∧ Below w.heap.size w w' := by
  have HB0 := hide (ba (Below.refl w.heap.size w) (.cells #[.int .i64 (Wd : Int), .int .i64 (Hd : Int), .slice u n c] 25))
  have HV := hide (vb_new w 25 [.int .i64 (Wd : Int), .int .i64 (Hd : Int), .slice u n c] w.heap.size rfl)
  have HSO : Hid (∀ X, Below w.heap.size w X → Calls Try.prog 33 #[.slice a len cap] X fun e w' => e = .returned (.pointer (some ⟨X.heap.size, 0, none⟩)) ∧ Below X.heap.size X w' ∧ So X.heap.size X.heap.size 0 w') := hide (fun X hX => source_any a len cap zs X (hc X hX) hl)
  clear hc
  go_enter Try.func10, Try.ntmps10
  go_wp2_with fail
  refine (unhide HSO _ (unhide HB0)).mono ?_
  rintro e W1 ⟨rfl, hb1, hs1⟩
  have HV1 := hide ((unhide HV).bel hb1)
  have HB1 := hide (bc (unhide HB0) hb1)
  have HS1 := hide hs1
  have hlt := (unhide HV).lt
  have hge := (unhide HB0).size
  clear hb1 hs1
  generalize (w.alloc (.cells #[.int .i64 (Wd : Int), .int .i64 (Hd : Int), .slice u n c] 25)).heap.size = gS at *
  go_wp2_with fail
  refine Go.Code.wp_mono (Only.to (fun _ _ h => h)) (mo2 (by omega) hW1 hW hH1 hH HS1 HV1 (fun y8 y9 y10 y11 y12 y13 y14 y15 y16 v ms m W2 ho hml hm hnn hmv => ?_))
  obtain ⟨q, cq, rfl, hq, h1, h2, h3⟩ := own_mvs ho hnn
  have HE := hide h3
  have HBN : Hid (Below w.heap.size w W2) := hide ((unhide HB1).trans (Mv.bel (Below.refl _ _) hmv (by omega) (unhide HB1).size))
  have hsz := (unhide HB1).size
  clear ho hnn hmv h3
  go_wp2_with fail
  go_ret
  exact ⟨⟨q, cq, ms, m, rfl, by omega, h1, h2, unhide HE, hml, hm.1, hm.2⟩, unhide HBN⟩
end Go.Proofs.Ytbjljofgpbecbaa
