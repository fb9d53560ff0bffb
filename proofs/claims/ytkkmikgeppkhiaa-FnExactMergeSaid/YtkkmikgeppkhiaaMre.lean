/-
  The program's Merge.
-/
import Derived.Test.YtkkmikgeppkhiaaMrc
namespace Go.Proofs.Ytkkmikgeppkhiaa
open Go.ChangeShapes Go.WideShapes Go.ChangeAt Go.RowKit Go.Maps Go.WideMaps
set_option linter.unusedVariables false
set_option linter.unusedSimpArgs false

theorem fss3 (a b c : Ls) : fss [a, b, c] = [a.fs, b.fs, c.fs] := rfl
theorem srow_own {w : World} {B n : Nat} {v : Value} {ns : List ByteArray} (h : SRow w B v ns) : ∃ u c, v = .slice u ns.length c := by
  obtain ⟨u, c, e, _⟩ := own_form h
  exact ⟨u, c, e⟩
set_option maxRecDepth 100000 in
set_option maxHeartbeats 8000000 in
theorem mergeP_any (u1 : Option Addr) (p1 o1 n1 c1 : Nat) (B : List Ft) (u2 : Option Addr) (p2 o2 n2 c2 : Nat) (O : List Ft) (u3 : Option Addr) (p3 o3 n3 c3 : Nat) (T : List Ft) (w : World) (hl1 : B.length = n1) (hl2 : O.length = n2) (hl3 : T.length = n3)
    (h1 : Lok w ⟨u1, p1, o1, c1, B⟩) (h2 : Lok w ⟨u2, p2, o2, c2, O⟩) (h3 : Lok w ⟨u3, p3, o3, c3, T⟩) :
    Calls Try.prog 16 #[.slice u1 n1 c1, .slice u2 n2 c2, .slice u3 n3 c3] w (MgEnd B O T w) := by
  have HL1 := hide hl1
  have HL2 := hide hl2
  have HL3 := hide hl3
  have H1 := hide h1
  have H2 := hide h2
  have H3 := hide h3
  clear hl1 hl2 hl3 h1 h2 h3
  have HB0 := hide (ba (Below.refl w.heap.size w) (.cells #[.slice u1 n1 c1, .slice u2 n2 c2, .slice u3 n3 c3] 27))
  have HLS : Hid (LsAt (w.alloc (.cells #[.slice u1 n1 c1, .slice u2 n2 c2, .slice u3 n3 c3] 27)) w.heap.size 0 [⟨u1, p1, o1, c1, B⟩, ⟨u2, p2, o2, c2, O⟩, ⟨u3, p3, o3, c3, T⟩]) := hide ⟨by simp, fun i l hi => by
    match i, hi with
    | 0, hi => cases hi; show _ = some (Value.slice u1 B.length c1); rw [unhide HL1]; simp [go_sem]
    | 1, hi => cases hi; show _ = some (Value.slice u2 O.length c2); rw [unhide HL2]; simp [go_sem]
    | 2, hi => cases hi; show _ = some (Value.slice u3 T.length c3); rw [unhide HL3]; simp [go_sem]⟩
  have HC := hide (codes_any w.heap.size 0 3 3 [⟨u1, p1, o1, c1, B⟩, ⟨u2, p2, o2, c2, O⟩, ⟨u3, p3, o3, c3, T⟩] (w.alloc (.cells #[.slice u1 n1 c1, .slice u2 n2 c2, .slice u3 n3 c3] 27)) rfl (by omega) (by
      intro l hl
      simp only [List.mem_cons, List.not_mem_nil, or_false] at hl
      rcases hl with rfl | rfl | rfl
      · exact (unhide H1).bel (ba (Below.refl _ _) _)
      · exact (unhide H2).bel (ba (Below.refl _ _) _)
      · exact (unhide H3).bel (ba (Below.refl _ _) _)) (unhide HLS))
  rw [fss3] at HC
  clear HLS
  go_enter Try.func16, Try.ntmps16
  go_wp2_with fail
  refine (unhide HC).mono ?_
  rintro e W1 ⟨⟨c, rfl, hvc⟩, hb⟩
  have HV := hide hvc
  have HB1 := hide (bc (unhide HB0) hb)
  clear hvc hb HC HB0
  by_cases hc : c = 0
  rotate_left
  · have c0 : (c != 0) = true := by simpa using hc
    have HC0 := hide hc
    clear hc
    go_wp2_with fail
    refine bodyPost_ret (v := .tuple #[.slice none 0 0, .int .i64 c, .slice none 0 0]) (by simp [results, Try.results16, go_sem]; done) rfl ?_
    exact mgEnd_code (unhide HV) (unhide HC0) (own_nil _ _ _ _) (own_nil _ _ _ _) (unhide HB1)
  subst hc
  have hF := (unhide HV).zero
  have hF1 := hF B (by simp)
  have hF2 := hF O (by simp)
  have hF3 := hF T (by simp)
  have HF1 := hide hF1
  have HF2 := hide hF2
  have HF3 := hide hF3
  have hn1 : n1 ≤ 30 := by rw [← unhide HL1]; exact hF1.len
  have hn2 : n2 ≤ 30 := by rw [← unhide HL2]; exact hF2.len
  have hn3 : n3 ≤ 30 := by rw [← unhide HL3]; exact hF3.len
  have HE1 := hide (edits_any u1 p1 o1 n1 c1 B u2 p2 o2 n2 c2 O W1 (((unhide H1).bel (unhide HB1)).lst (unhide HL1) hF1) (((unhide H2).bel (unhide HB1)).lst (unhide HL2) hF2))
  have HE2 := hide (fun W (hW : Below w.heap.size w W) => edits_any u1 p1 o1 n1 c1 B u3 p3 o3 n3 c3 T W (((unhide H1).bel hW).lst (unhide HL1) (unhide HF1)) (((unhide H3).bel hW).lst (unhide HL3) (unhide HF3)))
  clear hF hF1 hF2 hF3
  go_wp2_with fail
  refine (unhide HE1).mono ?_
  rintro e W2 ⟨rfl, hm, hb⟩
  have HM2 := hide hm
  have HB2 := hide (bc (unhide HB1) hb)
  have hmlt := hm.lt
  clear hm hb HE1
  go_wp2_with fail
  refine (unhide HE2 _ (unhide HB2)).mono ?_
  rintro e W3 ⟨rfl, hm, hb⟩
  have HM3 := hide ((unhide HM2).bel hb)
  have HN3 := hide hm
  have HB3 := hide (bc (unhide HB2) hb)
  have hnlt := hm.lt
  clear hm hb HE2
  have HCL := hide (clash_any W1.heap.size W2.heap.size (n1 + n2) (n1 + n3) (eds B O) (eds B T) W3 (unhide HM3) (unhide HN3) (by omega))
  go_wp2_with fail
  refine (unhide HCL).mono ?_
  rintro e W4 ⟨v4, cl, rfl, hns, hcn, hs4, hb⟩
  have HNS := hide hns
  have HS4 := hide hs4
  have HM4 := hide ((unhide HM3).bel hb)
  have HN4 := hide ((unhide HN3).bel hb)
  have HB4 := hide (bc (unhide HB3) hb)
  obtain ⟨u4, k4, rfl⟩ := srow_own (n := 0) hs4
  have hlt4 := hb.size
  clear hns hs4 hb HCL
  obtain ⟨q, hq⟩ : ∃ q, cl.length = q := ⟨_, rfl⟩
  have HQ := hide hq
  rw [hq] at HS4 hcn ⊢
  clear hq
  by_cases hq0 : q = 0
  rotate_left
  · have d1 : decide (0 < q) = true := decide_eq_true (by omega)
    have d3 : 0 < q := by omega
    have d2 : decide ((q : Int) > 0) = true := decide_eq_true (by omega)
    have HQ0 := hide hq0
    clear hq0
    go_wp2_with fail
    refine bodyPost_ret (v := .tuple #[.slice none 0 0, .int .i64 13, .slice u4 q k4]) (by simp [results, Try.results16, go_sem]; done) rfl ?_
    exact ⟨⟨_, 13, [], _, cl, rfl, ⟨0, unhide HV, .inr ⟨rfl, cl, unhide HNS, .inl ⟨(fun e => unhide HQ0 (by rw [← unhide HQ, e]; rfl)), rfl, rfl, rfl⟩⟩⟩, own_nil _ _ _ _, SRow.mono (unhide HS4) (unhide HB3).size⟩, unhide HB4⟩
  subst hq0
  have HCN : Hid (cl = []) := hide (List.eq_nil_of_length_eq_zero (unhide HQ))
  have d1 : decide ((0 : Nat) < 0) = false := decide_eq_false (by omega)
  have d2 : decide (((0 : Nat) : Int) > 0) = false := decide_eq_false (by omega)
  have HLV := hide (leave_any W2.heap.size W1.heap.size (n1 + n3) (n1 + n2) (eds B T) (eds B O) W4 (unhide HN4) (unhide HM4) (by omega))
  go_wp2_with fail
  refine (unhide HLV).mono ?_
  rintro e W5 ⟨rfl, hm5, hg5⟩
  have HN5 := hide hm5
  have HM5 := hide (gb_mp (unhide HM4) hg5 (by simp; omega))
  have HB5 := hide (Below.grown (unhide HB4) hg5 (unhide HB4).size (fun j hj => by cases hj; exact (unhide HB2).size))
  have HDN := hide (done_any W1.heap.size (n1 + n2) (eds B O) u1 p1 o1 n1 c1 B u2 p2 o2 n2 c2 O W5 (unhide HM5) (((unhide H1).bel (unhide HB5)).lst (unhide HL1) (unhide HF1)) (((unhide H2).bel (unhide HB5)).lst (unhide HL2) (unhide HF2)))
  clear hm5 hg5 HLV d1 d2 hcn
  go_wp2_with fail
  refine (unhide HDN).mono ?_
  rintro e W6 ⟨v6, rfl, hrow, hb6⟩
  have HB6 := hide (bc (unhide HB5) hb6)
  have HN6 := hide ((unhide HN5).bel hb6)
  obtain ⟨u6, k6, q6, rfl, hk6, hsl6⟩ := own_slF hrow
  have hdl : (done1 B O).length ≤ 60 := by have := dTo_len (eds B O) B O; unfold done1; rw [unhide HL1, unhide HL2] at this; omega
  have hD := done1_dif (fun f hf => (unhide HF1).nm0 hf) (unhide HF1).dif (unhide HF2).dif
  have hds : ∀ f ∈ done1 B O, f.nm.size ≤ maxLen := fun f hf => by
    rcases done1_mem hf with h | h
    · exact ((unhide H1).size f h).1
    · exact ((unhide H2).size f h).1
  have HD2 := hide (done_any W2.heap.size (n1 + n3) (wto (eds B T) (eds B O)) u6 q6 0 (done1 B O).length k6 (done1 B O) u3 p3 o3 n3 c3 T W6 (unhide HN6) ⟨rfl, by omega, hsl6, hD, hds⟩ (((unhide H3).bel (unhide HB6)).lst (unhide HL3) (unhide HF3)))
  have hX : dTo (eds B O) B O = done1 B O := rfl
  rw [hX]
  clear hrow hb6 hsl6 hD hds hX HDN
  generalize (done1 B O).length = qd at *
  go_wp2_with fail
  refine (unhide HD2).mono ?_
  rintro e W7 ⟨v7, rfl, hrow, hb7⟩
  have HB7 := hide (bc (unhide HB6) hb7)
  have hrow2 : W7.ownsRow W6.heap.size 57 15 v7 (mrg B O T).length (flatG ftc (mrg B O T)) := hrow
  have HR7 := hide (own_mono hrow2 (unhide HB6).size)
  obtain ⟨u7, k7, q7, rfl, hk7, hsl7⟩ := own_slF hrow2
  have hml := mrg_len B O T
  have HFO := hide (orderOfP_any u7 q7 0 (mrg B O T).length k7 (mrg B O T) W7 rfl (by rw [unhide HL1, unhide HL2, unhide HL3] at hml; omega) (by
    intro f hf
    rcases mrg_mem hf with h | h | h
    · exact (unhide H1).size f h
    · exact (unhide H2).size f h
    · exact (unhide H3).size f h) hsl7)
  obtain ⟨qm, hqm⟩ : ∃ q, (mrg B O T).length = q := ⟨_, rfl⟩
  have HQM := hide hqm
  rw [hqm] at HFO ⊢
  clear hrow hrow2 hb7 hsl7 hk7 hml hqm HD2
  go_wp2_with fail
  refine (unhide HFO).mono ?_
  rintro e W8 ⟨⟨v1, k, v3, ab, rfl, hck, _, hs3⟩, hb8⟩
  have HCK := hide hck
  have HS3 := hide (SRow.mono hs3 (unhide HB7).size)
  have HB8 := hide (bc (unhide HB7) hb8)
  have HR8 := hide (own_bel (unhide HR7) hb8)
  clear hck hb8 HFO hs3
  by_cases hk : k = 0
  rotate_left
  · have k0 : (k != 0) = true := by simpa using hk
    have HK0 := hide hk
    clear hk
    go_wp2_with fail
    refine bodyPost_ret (v := .tuple #[.slice none 0 0, .int .i64 k, v3]) (by simp [results, Try.results16, go_sem]; done) rfl ?_
    exact ⟨⟨_, k, [], _, ab, rfl, ⟨0, unhide HV, .inr ⟨rfl, cl, unhide HNS, .inr ⟨unhide HCN, k, ab, unhide HCK, .inl ⟨unhide HK0, rfl, rfl, rfl⟩⟩⟩⟩, own_nil _ _ _ _, unhide HS3⟩, unhide HB8⟩
  subst hk
  go_wp2_with fail
  refine bodyPost_ret (v := .tuple #[.slice u7 qm k7, .int .i64 0, .slice none 0 0]) (by simp [results, Try.results16, go_sem]; done) rfl ?_
  refine ⟨⟨_, 0, mrg B O T, _, [], rfl, ⟨0, unhide HV, .inr ⟨rfl, cl, unhide HNS, .inr ⟨unhide HCN, 0, ab, unhide HCK, .inr ⟨rfl, rfl, rfl, rfl⟩⟩⟩⟩, ?_, own_nil _ _ _ _⟩, unhide HB8⟩
  have := unhide HR8
  rw [unhide HQM] at this ⊢
  exact this
end Go.Proofs.Ytkkmikgeppkhiaa
