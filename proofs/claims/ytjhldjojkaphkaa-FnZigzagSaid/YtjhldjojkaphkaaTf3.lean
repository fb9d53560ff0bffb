/-
  A statement of the way round an outline, walked alone: one step on.
-/
import Derived.Test.YtjhldjojkaphkaaWyP
import Derived.Test.YtjhldjojkaphkaaRis
namespace Go.Proofs.Ytjhldjojkaphkaa
open Go.ChangeShapes Go.WideShapes Go.ChangeAt Go.RowKit
set_option linter.unusedVariables false
set_option linter.unusedSimpArgs false

noncomputable def reg88 (id : Nat) : Go.Code := match Try.f88.body with | some c => (regOf id c).getD .skip | none => .skip
set_option maxHeartbeats 4000000 in
set_option maxRecDepth 100000 in
theorem tf3 {s0 s1 s2 s3 s4 s8 s9 s10 s11 s12 s13 s14 s15 s16 s17 s18 s19 s20 s21 s22 s23 s24 s25 s26 s27 s28 s29 s30 : Value} {b5 b6 b7 : Nat} {px py vx vy ex ey ux uy : Int} {V : World} {K_ : Act → World → Prop} (n56 : b5 ≠ b6) (n65 : b6 ≠ b5) (n75 : b7 ≠ b5) (n76 : b7 ≠ b6)
    (H5 : Hid (vb V b5 46 [.int .i64 px, .int .i64 py])) (H6 : Hid (vb V b6 46 [.int .i64 vx, .int .i64 vy])) (H7 : Hid (vb V b7 46 [.int .i64 ex, .int .i64 ey]))
    (HP : Hid (∀ X, Calls Try.prog 90 #[.agg #[.int .i64 (px), .int .i64 (py)], .agg #[.int .i64 (ex), .int .i64 (ey)]] X fun e w' => e = .returned (.agg #[.int .i64 (ux), .int .i64 (uy)]) ∧ Below X.heap.size X w'))
    (hQ : ∀ (W' : World), vb W' b5 46 [.int .i64 ux, .int .i64 uy] → vb W' b6 46 [.int .i64 ex, .int .i64 ey] → Grw (fun b => b = b5 ∨ b = b6) V W' → K_ { tmps := #[s0, s1, s2, s3, s4, .pointer (some ⟨b5, 0, none⟩), .pointer (some ⟨b6, 0, none⟩), .pointer (some ⟨b7, 0, none⟩), s8, s9, s10, s11, s12, s13, s14, s15, s16, s17, s18, s19, s20, s21, s22, s23, .agg #[.int .i64 (px), .int .i64 (py)], .agg #[.int .i64 (ex), .int .i64 (ey)], .agg #[.int .i64 (ux), .int .i64 (uy)], .agg #[.int .i64 (ex), .int .i64 (ey)], s28, s29, s30], defers := [] } W') :
    Go.Code.wp Try.prog (reg88 3) (Only K_) { tmps := #[s0, s1, s2, s3, s4, .pointer (some ⟨b5, 0, none⟩), .pointer (some ⟨b6, 0, none⟩), .pointer (some ⟨b7, 0, none⟩), s8, s9, s10, s11, s12, s13, s14, s15, s16, s17, s18, s19, s20, s21, s22, s23, s24, s25, s26, s27, s28, s29, s30], defers := [] } V := by
  have HQ := hide hQ
  clear hQ
  conv => arg 2; whnf
  refine wp_region_inv2 (fun Lb A W => ∃ (u0 u1 u2 u3 u4 u5 : Bool) (dd : Nat), Lb = #[u0, u1, u2, u3, u4, u5] ∧ A = ({ tmps := #[s0, s1, s2, s3, s4, .pointer (some ⟨b5, 0, none⟩), .pointer (some ⟨b6, 0, none⟩), .pointer (some ⟨b7, 0, none⟩), s8, s9, s10, s11, s12, s13, s14, s15, s16, s17, s18, s19, s20, s21, s22, s23, (bif u0 then .agg #[.int .i64 (px), .int .i64 (py)] else s24), (bif u1 then .agg #[.int .i64 (ex), .int .i64 (ey)] else s25), (bif u2 then .agg #[.int .i64 (ux), .int .i64 (uy)] else s26), (bif u3 then .agg #[.int .i64 (ex), .int .i64 (ey)] else s27), s28, s29, s30], defers := [] } : Act) ∧ (u4 = false → vb W b5 46 [.int .i64 px, .int .i64 py]) ∧ (u4 = true → vb W b5 46 [.int .i64 ux, .int .i64 uy]) ∧ (u5 = false → vb W b6 46 [.int .i64 vx, .int .i64 vy]) ∧ (u5 = true → vb W b6 46 [.int .i64 ex, .int .i64 ey]) ∧ vb W b7 46 [.int .i64 ex, .int .i64 ey] ∧ Grw (fun b => b = b5 ∨ b = b6) V W ∧ (u2 = true → u0 = true ∧ u1 = true) ∧ (u4 = true → u2 = true) ∧ (u5 = true → u0 = true ∧ u1 = true ∧ u2 = true ∧ u3 = true ∧ u4 = true)) (by kernel_rfl) (by kernel_rfl) ?h0 ?hstep ?hend
  case h0 =>
    exact ⟨false, false, false, false, false, false, 0, rfl, rfl, (fun _ => unhide H5), (fun h => nomatch h), (fun _ => unhide H6), (fun h => nomatch h), unhide H7, ⟨rfl, rfl, rfl, Nat.le_refl _, fun _ _ _ => rfl⟩, (fun h => nomatch h), (fun h => nomatch h), (fun h => nomatch h)⟩
  case hstep =>
    rintro Lb A W ⟨u0, u1, u2, u3, u4, u5, dd, rfl, rfl, k5, k5b, k6, k6b, k7, kG, c2, c4, kF⟩
    refine ⟨?_, ?_, ?_, ?_, ?_, ?_, trivial⟩
    · intro h0 hd K hK
      have z : u0 = false := h0
      have z5_ : u5 = false := by
        cases hu : u5 with
        | false => rfl
        | true => exact nomatch z.symm.trans ((kF hu).1)
      have z4_ : u4 = false := by
        cases hu : u4 with
        | false => rfl
        | true => exact nomatch z.symm.trans ((c2 (c4 hu)).1)
      have H_k5 := hide k5
      have H_k5b := hide k5b
      have H_k6 := hide k6
      have H_k6b := hide k6b
      have H_k7 := hide k7
      have H_kG := hide kG
      have H_c2 := hide c2
      have H_c4 := hide c4
      have H_kF := hide kF
      clear k5 k5b k6 k6b k7 kG c2 c4 kF
      subst z5_
      subst z4_
      subst z
      clear h0 hd
      rw [if_pos (by rfl)]
      have v1 := unhide H_k5 rfl
      have q0 := v1.cell (m := 0) rfl
      have q1 := v1.cell (m := 1) rfl
      clear v1
      go_simp
      exact unhide hK _ _ ⟨true, u1, u2, u3, false, false, dd, rfl, rfl, unhide H_k5, (fun h => nomatch h), unhide H_k6, (fun h => nomatch h), unhide H_k7, unhide H_kG, (fun h => ⟨rfl, (unhide H_c2 h).2⟩), (fun h => nomatch h), (fun h => nomatch h)⟩
    · intro h0 hd K hK
      have z : u1 = false := h0
      have z5_ : u5 = false := by
        cases hu : u5 with
        | false => rfl
        | true => exact nomatch z.symm.trans ((kF hu).2.1)
      have z4_ : u4 = false := by
        cases hu : u4 with
        | false => rfl
        | true => exact nomatch z.symm.trans ((c2 (c4 hu)).2)
      have H_k5 := hide k5
      have H_k5b := hide k5b
      have H_k6 := hide k6
      have H_k6b := hide k6b
      have H_k7 := hide k7
      have H_kG := hide kG
      have H_c2 := hide c2
      have H_c4 := hide c4
      have H_kF := hide kF
      clear k5 k5b k6 k6b k7 kG c2 c4 kF
      subst z5_
      subst z4_
      subst z
      clear h0 hd
      rw [if_pos (by rfl)]
      have v1 := unhide H_k7
      have q0 := v1.cell (m := 0) rfl
      have q1 := v1.cell (m := 1) rfl
      clear v1
      go_simp
      exact unhide hK _ _ ⟨u0, true, u2, u3, false, false, dd, rfl, rfl, unhide H_k5, (fun h => nomatch h), unhide H_k6, (fun h => nomatch h), unhide H_k7, unhide H_kG, (fun h => ⟨(unhide H_c2 h).1, rfl⟩), (fun h => nomatch h), (fun h => nomatch h)⟩
    · intro h0 hd K hK
      have z : u2 = false := h0
      have z5_ : u5 = false := by
        cases hu : u5 with
        | false => rfl
        | true => exact nomatch z.symm.trans ((kF hu).2.2.1)
      have z4_ : u4 = false := by
        cases hu : u4 with
        | false => rfl
        | true => exact nomatch z.symm.trans ((c4 hu))
      have zd : u0 = true ∧ u1 = true := by
        simp [Region.binds] at hd
        simp [hd]
      have H_k5 := hide k5
      have H_k5b := hide k5b
      have H_k6 := hide k6
      have H_k6b := hide k6b
      have H_k7 := hide k7
      have H_kG := hide kG
      have H_c2 := hide c2
      have H_c4 := hide c4
      have H_kF := hide kF
      clear k5 k5b k6 k6b k7 kG c2 c4 kF
      obtain ⟨rfl, rfl⟩ := zd
      subst z5_
      subst z4_
      subst z
      clear h0 hd
      rw [if_pos (by rfl)]
      go_simp
      refine (unhide HP _).mono ?_
      rintro e w8 ⟨rfl, hb8⟩
      exact unhide hK _ _ ⟨true, true, true, u3, false, false, dd, rfl, rfl, (fun h => (unhide H_k5 h).bel hb8), (fun h => nomatch h), (fun h => (unhide H_k6 h).bel hb8), (fun h => nomatch h), (unhide H_k7).bel hb8, (unhide H_kG).trans (Grw.of_bel hb8), (fun _ => ⟨rfl, rfl⟩), (fun h => nomatch h), (fun h => nomatch h)⟩
    · intro h0 hd K hK
      have z : u3 = false := h0
      have z5_ : u5 = false := by
        cases hu : u5 with
        | false => rfl
        | true => exact nomatch z.symm.trans ((kF hu).2.2.2.1)
      have H_k5 := hide k5
      have H_k5b := hide k5b
      have H_k6 := hide k6
      have H_k6b := hide k6b
      have H_k7 := hide k7
      have H_kG := hide kG
      have H_c2 := hide c2
      have H_c4 := hide c4
      have H_kF := hide kF
      clear k5 k5b k6 k6b k7 kG c2 c4 kF
      subst z5_
      subst z
      clear h0 hd
      rw [if_pos (by rfl)]
      have v1 := unhide H_k7
      have q0 := v1.cell (m := 0) rfl
      have q1 := v1.cell (m := 1) rfl
      clear v1
      go_simp
      exact unhide hK _ _ ⟨u0, u1, u2, true, u4, false, dd, rfl, rfl, unhide H_k5, unhide H_k5b, unhide H_k6, (fun h => nomatch h), unhide H_k7, unhide H_kG, unhide H_c2, unhide H_c4, (fun h => nomatch h)⟩
    · intro h0 hd K hK
      have z : u4 = false := h0
      have z5_ : u5 = false := by
        cases hu : u5 with
        | false => rfl
        | true => exact nomatch z.symm.trans ((kF hu).2.2.2.2)
      have zd : u2 = true := by
        simp [Region.binds] at hd
        simp [hd]
      have H_k5 := hide k5
      have H_k5b := hide k5b
      have H_k6 := hide k6
      have H_k6b := hide k6b
      have H_k7 := hide k7
      have H_kG := hide kG
      have H_c2 := hide c2
      have H_c4 := hide c4
      have H_kF := hide kF
      clear k5 k5b k6 k6b k7 kG c2 c4 kF
      obtain ⟨rfl⟩ := zd
      subst z5_
      subst z
      clear h0 hd
      rw [if_pos (by rfl)]
      have v1 := unhide H_k5 rfl
      have fz := v1.frozen
      have q0 := v1.cell (m := 0) rfl
      have q1 := v1.cell (m := 1) rfl
      have HV1 := hide v1
      clear v1
      go_simp
      exact unhide hK _ _ ⟨u0, u1, true, u3, true, false, dd, rfl, rfl, (fun h => nomatch h), (fun _ => ((unhide HV1).set 0 _).set 1 _), (fun h => ((unhide H_k6 h).ne n65).ne n65), (fun h => nomatch h), ((unhide H_k7).ne n75).ne n75, ((unhide H_kG).trans (Grw.cell (.inl rfl) _)).trans (Grw.cell (.inl rfl) _), unhide H_c2, (fun _ => rfl), (fun h => nomatch h)⟩
    · intro h0 hd K hK
      have z : u5 = false := h0
      have zd : u3 = true ∧ u4 = true ∧ u0 = true ∧ u1 = true ∧ u2 = true := by
        simp [Region.binds] at hd
        simp_all
      have H_k5 := hide k5
      have H_k5b := hide k5b
      have H_k6 := hide k6
      have H_k6b := hide k6b
      have H_k7 := hide k7
      have H_kG := hide kG
      have H_c2 := hide c2
      have H_c4 := hide c4
      have H_kF := hide kF
      clear k5 k5b k6 k6b k7 kG c2 c4 kF
      obtain ⟨rfl, rfl, rfl, rfl, rfl⟩ := zd
      subst z
      clear h0 hd
      rw [if_pos (by rfl)]
      have v1 := unhide H_k6 rfl
      have fz := v1.frozen
      have q0 := v1.cell (m := 0) rfl
      have q1 := v1.cell (m := 1) rfl
      have HV1 := hide v1
      clear v1
      go_simp
      exact unhide hK _ _ ⟨true, true, true, true, true, true, dd, rfl, rfl, (fun h => nomatch h), (fun h => ((unhide H_k5b h).ne n56).ne n56), (fun h => nomatch h), (fun _ => ((unhide HV1).set 0 _).set 1 _), ((unhide H_k7).ne n76).ne n76, ((unhide H_kG).trans (Grw.cell (.inr rfl) _)).trans (Grw.cell (.inr rfl) _), (fun _ => ⟨rfl, rfl⟩), (fun _ => rfl), (fun _ => ⟨rfl, rfl, rfl, rfl, rfl⟩)⟩
  case hend =>
    rintro Lb A W ⟨u0, u1, u2, u3, u4, u5, dd, rfl, rfl, k5, k5b, k6, k6b, k7, kG, c2, c4, kF⟩ hL
    have hl : u0 = true ∧ u1 = true ∧ u2 = true ∧ u3 = true ∧ u4 = true ∧ u5 = true := by
      have h2 := congrArg Array.toList hL
      simpa [List.replicate] using h2
    obtain ⟨rfl, rfl, rfl, rfl, rfl, rfl⟩ := hl
    exact unhide HQ W (k5b rfl) (k6b rfl) kG

/-- how many corners the first k steps have -/
def ctn (A : Int → Int → Bool) (s : Cst) : Nat → Nat
  | 0 => 0
  | k + 1 => ctn A s k + if nxd A (itr (nxt A) s k) = (itr (nxt A) s k).d then 0 else 1
theorem crn_len (A : Int → Int → Bool) (s : Cst) : ∀ k, (crn A s k).length = ctn A s k * 2
  | 0 => rfl
  | k + 1 => by
    show (crn A s k ++ _).length = (ctn A s k + _) * 2
    rw [List.length_append, crn_len A s k]
    split <;> simp <;> omega
theorem ctn_le (A : Int → Int → Bool) (s : Cst) : ∀ k, ctn A s k ≤ k
  | 0 => Nat.le_refl _
  | k + 1 => by
    show ctn A s k + _ ≤ k + 1
    have := ctn_le A s k
    split <;> omega
theorem crn_pre (A : Int → Int → Bool) (s : Cst) (j : Nat) : ∀ d, ∃ M, crn A s (j + d) = crn A s j ++ M
  | 0 => ⟨[], by simp⟩
  | d + 1 => by
    obtain ⟨M, hM⟩ := crn_pre A s j d
    exact ⟨M ++ _, by show crn A s (j + d) ++ _ = _; rw [hM, List.append_assoc]⟩
/-- the k-th corner -/
def cor (cs : List Int) (k : Nat) : Array Value := #[.agg #[.int .i64 (gt cs (k * 2)), .int .i64 (gt cs (k * 2 + 1))]]
theorem cor_at {A : Int → Int → Bool} {s : Cst} {j K : Nat} {px py : Int} {d : Nat} (hj : j < K) (hs : itr (nxt A) s j = ⟨px, py, d⟩) (ht : nxd A ⟨px, py, d⟩ ≠ d) : cor (crn A s K) (ctn A s j) = #[.agg #[.int .i64 px, .int .i64 py]] ∧ ctn A s j < ctn A s K ∧ ctn A s (j + 1) = ctn A s j + 1 := by
  have e1 : ctn A s (j + 1) = ctn A s j + 1 := by
    show ctn A s j + _ = _
    rw [hs, if_neg ht]
  have e2 : crn A s (j + 1) = crn A s j ++ [px, py] := by
    show crn A s j ++ _ = _
    rw [hs, if_neg ht]
  obtain ⟨M, hM⟩ := crn_pre A s (j + 1) (K - (j + 1))
  rw [show j + 1 + (K - (j + 1)) = K by omega, e2] at hM
  have hl := crn_len A s j
  refine ⟨?_, ?_, e1⟩
  · unfold cor gt
    rw [hM, ← hl, List.append_assoc]
    simp [List.getD_eq_getElem?_getD, List.getElem?_append_right]
  · have h2 := crn_len A s K
    rw [hM] at h2
    simp at h2
    omega
end Go.Proofs.Ytjhldjojkaphkaa
