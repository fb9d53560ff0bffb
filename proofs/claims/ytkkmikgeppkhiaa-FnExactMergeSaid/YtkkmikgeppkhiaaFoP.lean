/-
  The program's order of features.
-/
import Derived.Test.YtkkmikgeppkhiaaRhP
namespace Go.Proofs.Ytkkmikgeppkhiaa
open Go.ChangeShapes Go.WideShapes Go.ChangeAt Go.RowKit Go.Maps Go.WideMaps
set_option linter.unusedVariables false
set_option linter.unusedSimpArgs false

set_option maxRecDepth 100000 in
set_option maxHeartbeats 4000000 in
theorem orderOfP_any (u : Option Addr) (p po n cu : Nat) (fs : List Ft) (w : World) (hl : fs.length = n) (hn : n ≤ 1048576) (hs : ∀ f ∈ fs, f.nm.size ≤ maxLen ∧ f.on.size ≤ maxLen ∧ f.ov.size ≤ maxLen) (hu : SlG ftc 15 w u p po fs) :
    Calls Try.prog 44 #[.slice u n cu] w fun e w' => (∃ v1 c v3 ab, e = .returned (.tuple #[v1, .int .i64 c, v3]) ∧ Chk fs c ab ∧ SRow w' w.heap.size v1 (odN fs c) ∧ SRow w' w.heap.size v3 ab) ∧ Below w.heap.size w w' := by
  have HRD := hide (readP_any u p po n cu fs w hl hn hs hu)
  have HU := hide hu
  have HL := hide hl
  clear hu hl hs
  go_enter Try.func44, Try.ntmps44
  go_wp2_with fail
  refine (unhide HRD).mono ?_
  rintro e W1 ⟨⟨bm, u3, n3, c3, u4, n4, c4, c, v3, ab, rfl, hck, hsr, hok⟩, hb⟩
  have HCK := hide hck
  have HSR := hide hsr
  have HB := hide hb
  obtain ⟨ua, ca, rfl, _⟩ := own_form hsr
  clear hsr HRD
  by_cases hc : c = 0
  · subst hc
    obtain ⟨hfine, rfl⟩ := hck.zero
    obtain ⟨_, _, _, hrow⟩ := hok rfl
    have hlo : (ord (nms fs)).length = n := by rw [hfine.all]; exact unhide HL
    have hlt : ∀ x ∈ ord (nms fs), x < n := by have := wo_lt (nms fs) (nms fs).length; rw [nms_len, unhide HL] at this; unfold ord; rw [nms_len, unhide HL]; exact this
    have hn4 : n = n4 := by
      obtain ⟨u9, c9, e9, _⟩ := hrow.form
      injection e9 with a1 a2 a3
      rw [a2, hlo]
    subst hn4
    rw [hlo] at hrow
    have hbA := ba (Below.refl W1.heap.size W1) (.cells #[.slice u n cu, .map (some bm), .slice u3 n3 c3, .slice u4 n c4] 99)
    have HNO := hide (namesP_any u u3 u4 u4 p po n cu bm n3 c3 n c4 c4 n fs (ord (nms fs)) _ (unhide HL) ((unhide HU).bel (bc hb hbA)) hlo (by have := hfine.len; rw [unhide HL] at this; omega) hlt (fun h0 => by
      obtain ⟨u9, c9, e9, h9⟩ := hrow.form
      injection e9 with a1 a2 a3
      subst a1
      obtain ⟨g, rfl, _, hg, hi⟩ := h9 (by intro e; exact h0 (List.eq_nil_of_length_eq_zero (by rw [hlo]; exact e)))
      exact ⟨g, 0, rfl, Nat.lt_of_lt_of_le hg hbA.size, hi.below hbA hg⟩))
    have hod : odN fs 0 = (ord (nms fs)).map (nmOf fs) := if_pos rfl
    have HOD := hide hod
    have HLO := hide hlo
    have HBA := hide hbA
    clear hck hok hb hrow hlt hlo hfine hod hbA
    go_wp2_with fail
    refine (unhide HNO).mono ?_
    rintro e W2 ⟨⟨vs, rfl, hs2⟩, hb2⟩
    have hs3 := hs2
    unfold SRow at hs3
    rw [List.length_map, unhide HLO] at hs3
    obtain ⟨us, cs, rfl, _⟩ := own_form hs3
    have HS2 := hide (SRow.mono hs2 (Nat.le_trans (unhide HB).size (unhide HBA).size))
    clear hs3
    have HB2 := hide (bc (bc (unhide HB) (unhide HBA)) hb2)
    clear hs2 hb2
    go_wp2_with fail
    refine bodyPost_ret (v := .tuple #[.slice us n cs, .int .i64 0, .slice none 0 0]) (by simp [results, Try.results44, go_sem]; done) rfl ?_
    first
    | exact ⟨⟨_, _, _, [], rfl, unhide HCK, by rw [unhide HOD]; exact unhide HS2, own_nil _ _ _ _⟩, unhide HB2⟩
    | exact ⟨⟨_, _, _, rfl, [], unhide HCK, by rw [unhide HOD]; exact unhide HS2, own_nil _ _ _ _⟩, unhide HB2⟩
  · have hc' : (c == 0) = false := by simpa using hc
    clear hck hok hb
    go_wp2_with fail
    refine bodyPost_ret (v := .tuple #[.slice none 0 0, .int .i64 c, .slice ua ab.length ca]) (by simp [results, Try.results44, go_sem]; done) rfl ?_
    first
    | refine ⟨⟨_, _, _, ab, rfl, unhide HCK, ?_, (unhide HSR).bel (ba (Below.refl _ _) _)⟩, ba (unhide HB) _⟩
    | refine ⟨⟨_, _, _, rfl, ab, unhide HCK, ?_, (unhide HSR).bel (ba (Below.refl _ _) _)⟩, ba (unhide HB) _⟩
    rw [show odN fs c = [] from if_neg hc]
    exact own_nil _ _ _ _
end Go.Proofs.Ytkkmikgeppkhiaa
