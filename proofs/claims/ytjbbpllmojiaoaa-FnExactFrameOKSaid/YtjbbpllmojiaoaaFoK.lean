/-
  FrameOK of both sides.
-/
import Derived.Test.YtjbbpllmojiaoaaFm
import Derived.Test.YtjbbpllmojiaoaaVb
namespace Go.Proofs.Ytjbbpllmojiaoaa
open Go.ChangeShapes Go.WideShapes Go.ChangeAt Go.RowKit
set_option linter.unusedVariables false
set_option linter.unusedSimpArgs false

set_option maxHeartbeats 2000000 in
theorem fokP_any (N : Int) (us ul : Option Addr) (p po p' po' ns cs nl cl : Nat) (S : List Spg) (L : List Int) (w : World) (hs : S.length = ns) (hns : ns ≤ 9223372036854775807) (hl : L.length = nl) (hnl : nl ≤ 9223372036854775807)
    (hu : Sps w us p po S) (hu' : Its w ul p' po' L) :
    Calls Try.prog 21 #[.agg #[.int .i64 N, .slice us ns cs, .slice ul nl cl]] w fun e w' => e = .returned (.bool (frOk N S L)) ∧ Below w.heap.size w w' := by
  have HQ : Hid (frOk N S L = (inR 1 6 N && (decide (ns ≤ 20) && (decide ((nl : Int) = N) && (S.all (spOk N) && L.all (inR (-1000) 1000)))))) := hide (by unfold frOk; rw [hs, hl])
  have HB := hide (ba (Below.refl w.heap.size w) (.cells #[.int .i64 N, .slice us ns cs, .slice ul nl cl] 26))
  have HV := hide (vb_new w 26 [.int .i64 N, .slice us ns cs, .slice ul nl cl] w.heap.size rfl)
  have HC : Hid (inR 1 6 N = true → ∀ X, Below w.heap.size w X → Calls Try.prog 51 #[.slice us ns cs, .func (.func 52) #[.agg #[.int .i64 N, .slice us ns cs, .slice ul nl cl]] #[]] X fun e w' => e = .returned (.bool (!S.all (spOk N))) ∧ Below X.heap.size X w') :=
    hide (fun hn X hX => cns_any N ul nl cl us p po ns cs S X (inR_iff.1 hn).1 (inR_iff.1 hn).2 hs hns (hu.bel hX))
  have HD := hide (fun X (hX : Below w.heap.size w X) => cnf53_any ul p' po' nl cl L X hl hnl (hu'.bel hX))
  clear hs hl hu hu'
  cases t1 : inR 1 6 N with
  | false =>
    go_enter Try.func21, Try.ntmps21
    go_wp2_with fail
    refine (bt_any N 1 6 _).mono ?_
    rintro e w' ⟨rfl, rfl⟩
    rw [t1]
    go_wp2_with fail
    go_ret
    exact ⟨by rw [unhide HQ, t1]; rfl, unhide HB⟩
  | true =>
  have HC' := hide (unhide HC t1)
  by_cases h2 : ns ≤ 20
  · have t2 : decide ((ns : Int) ≤ 20) = true := decide_eq_true (by omega)
    by_cases h3 : (nl : Int) = N
    · have t3 : ((nl : Int) == N) = true := by simp [h3]
      have HN := hide h3
      clear h3
      go_enter Try.func21, Try.ntmps21
      go_wp2_with fail
      refine (bt_any N 1 6 _).mono ?_
      rintro e w' ⟨rfl, rfl⟩
      rw [t1]
      go_wp2_with fail
      refine (unhide HC' _ (unhide HB)).mono ?_
      rintro e w1 ⟨rfl, hb⟩
      have HB1 := hide (bc (unhide HB) hb)
      have k2 := ((unhide HV).bel hb).cell (m := 2) rfl
      clear hb
      cases t4 : S.all (spOk N) with
      | false =>
        go_wp2_with fail
        go_ret
        exact ⟨by rw [unhide HQ, t1, t4]; simp, unhide HB1⟩
      | true =>
        go_wp2_with fail
        refine (unhide HD _ (unhide HB1)).mono ?_
        rintro e w2 ⟨rfl, rfl⟩
        go_wp2_with fail
        go_ret
        exact ⟨by rw [unhide HQ, t1, t4]; simp [h2, unhide HN], unhide HB1⟩
    · have t3 : ((nl : Int) == N) = false := by simp [h3]
      go_enter Try.func21, Try.ntmps21
      go_wp2_with fail
      refine (bt_any N 1 6 _).mono ?_
      rintro e w' ⟨rfl, rfl⟩
      rw [t1]
      go_wp2_with fail
      go_ret
      exact ⟨by rw [unhide HQ, t1]; simp [h2, h3], unhide HB⟩
  · have t2 : decide ((ns : Int) ≤ 20) = false := decide_eq_false (by omega)
    go_enter Try.func21, Try.ntmps21
    go_wp2_with fail
    refine (bt_any N 1 6 _).mono ?_
    rintro e w' ⟨rfl, rfl⟩
    rw [t1]
    go_wp2_with fail
    go_ret
    exact ⟨by rw [unhide HQ, t1]; simp [h2], unhide HB⟩
theorem sp_no {n : Int} {s : Spg} (h : ¬ (0 ≤ s.a ∧ s.a < n ∧ -1 ≤ s.b ∧ s.b < n ∧ s.a ≠ s.b ∧ 1 ≤ s.k ∧ s.k ≤ 1000)) : spOk n s = false := by
  cases hq : spOk n s with
  | false => rfl
  | true =>
    exfalso; apply h
    simp only [spOk, Bool.and_eq_true, inR_iff, Bool.not_eq_true', beq_eq_false_iff_ne] at hq
    obtain ⟨⟨a1, a2⟩, ⟨b1, b2⟩, c, k1, k2⟩ := hq
    exact ⟨a1, by omega, b1, by omega, c, k1, k2⟩
theorem sp_yes {n : Int} {s : Spg} (h : 0 ≤ s.a ∧ s.a < n ∧ -1 ≤ s.b ∧ s.b < n ∧ s.a ≠ s.b ∧ 1 ≤ s.k ∧ s.k ≤ 1000) : spOk n s = true := by
  simp only [spOk, Bool.and_eq_true, inR_iff, Bool.not_eq_true', beq_eq_false_iff_ne]
  exact ⟨⟨h.1, by omega⟩, ⟨h.2.2.1, by omega⟩, h.2.2.2.2.1, h.2.2.2.2.2.1, h.2.2.2.2.2.2⟩
set_option maxHeartbeats 4000000 in
theorem fokM_any (N : Int) (us ul : Option Addr) (p po p' po' ns cs nl cl : Nat) (S : List Spg) (L : List Int) (w : World) (hs : S.length = ns) (hns : ns ≤ 9223372036854775807) (hl : L.length = nl) (hnl : nl ≤ 9223372036854775807)
    (hu : Sps w us p po S) (hu' : Its w ul p' po' L) :
    Calls Try.prog 19 #[.agg #[.int .i64 N, .slice us ns cs, .slice ul nl cl]] w fun e w' => e = .returned (.bool (frOk N S L)) ∧ Below w.heap.size w w' := by
  have HQ : Hid (frOk N S L = (inR 1 6 N && (decide (ns ≤ 20) && (decide ((nl : Int) = N) && (S.all (spOk N) && L.all (inR (-1000) 1000)))))) := hide (by unfold frOk; rw [hs, hl])
  have HB := hide (ba (Below.refl w.heap.size w) (.cells #[.int .i64 N, .slice us ns cs, .slice ul nl cl] 26))
  have HV := hide (vb_new w 26 [.int .i64 N, .slice us ns cs, .slice ul nl cl] w.heap.size rfl)
  have HU := hide (fun X (hX : Below w.heap.size w X) => hu.bel hX)
  have HS := hide hs
  have HD := hide (fun X (hX : Below w.heap.size w X) => wi_any ul p' po' nl cl L (-1000) 1000 X hl hnl (hu'.bel hX))
  clear hs hl hu hu'
  by_cases g1 : N < 1
  · have t1 : decide (N < 1) = true := decide_eq_true g1
    go_enter Try.func19, Try.ntmps19
    go_wp2_with fail
    go_ret
    exact ⟨by rw [unhide HQ, inR_f1 g1]; rfl, unhide HB⟩
  have t1 : decide (N < 1) = false := decide_eq_false g1
  by_cases g2 : 6 < N
  · have t2 : decide (6 < N) = true := decide_eq_true g2
    go_enter Try.func19, Try.ntmps19
    go_wp2_with fail
    go_ret
    exact ⟨by rw [unhide HQ, inR_f2 g2]; rfl, unhide HB⟩
  have t2 : decide (6 < N) = false := decide_eq_false g2
  by_cases g3 : 20 < ns
  · have t3 : decide ((20 : Int) < (ns : Int)) = true := decide_eq_true (by omega)
    go_enter Try.func19, Try.ntmps19
    go_wp2_with fail
    go_ret
    exact ⟨by rw [unhide HQ, decide_eq_false (by omega : ¬ ns ≤ 20)]; simp, unhide HB⟩
  have t3 : decide ((20 : Int) < (ns : Int)) = false := decide_eq_false (by omega)
  by_cases g4 : (nl : Int) = N
  rotate_left
  · have t4 : ((nl : Int) != N) = true := by simp [g4]
    go_enter Try.func19, Try.ntmps19
    go_wp2_with fail
    go_ret
    exact ⟨by rw [unhide HQ, decide_eq_false g4]; simp, unhide HB⟩
  have t4 : ((nl : Int) != N) = false := by simp [g4]
  have HI : Hid (inR 1 6 N = true) := hide (inR_iff.2 ⟨by omega, by omega⟩)
  have HN := hide g4
  clear g4
  cases t5 : L.all (inR (-1000) 1000) with
  | false =>
    rw [t5] at HD
    go_enter Try.func19, Try.ntmps19
    go_wp2_with fail
    refine (unhide HD _ (unhide HB)).mono ?_
    rintro e w2 ⟨rfl, rfl⟩
    go_wp2_with fail
    go_ret
    exact ⟨by rw [unhide HQ, t5]; simp, unhide HB⟩
  | true =>
  rw [t5] at HD
  have HT5 := hide t5
  clear t5
  have s0 : (0 : Int) ≤ (ns : Int) := Int.natCast_nonneg _
  go_enter Try.func19, Try.ntmps19
  go_wp2_with fail
  refine (unhide HD _ (unhide HB)).mono ?_
  rintro e w2 ⟨rfl, rfl⟩
  go_wp2_with fail
  go_loopw [3, 4] (fun s _ W => ∃ i : Nat, s = .int .i64 (i : Int) ∧ i ≤ ns ∧ (S.take i).all (spOk N) = true ∧ Below w.heap.size w W ∧ vb W w.heap.size 26 [.int .i64 N, .slice us ns cs, .slice ul nl cl]) (fun s _ _ => ns - (intOf s).toNat)
  case atStart => exact ⟨0, rfl, Nat.zero_le _, by simp, unhide HB, unhide HV⟩
  case round =>
    obtain ⟨i, rfl, hi, ha, hb, hv⟩ := hrel
    have HA := hide ha
    have HB2 := hide hb
    have HV2 := hide hv
    have k0 := hv.cell (m := 0) rfl
    have k1 := hv.cell (m := 1) rfl
    have vl := hv.lt
    clear ha hv
    by_cases h : i < ns
    · have i1 : (i : Int) < (ns : Int) := by omega
      have i0 : (0 : Int) ≤ (i : Int) := Int.natCast_nonneg _
      have iz : decide ((i : Int) < (ns : Int)) = true := decide_eq_true i1
      obtain ⟨s, hx⟩ := get_some (unhide HS) h
      obtain ⟨rfl, pw, l0, l1, l2⟩ := (unhide HU _ hb).at hx
      have HAX := hide (alls_take (spOk N) hx)
      have HX := hide hx
      clear pw hx hb
      by_cases a1 : s.a < 0
      · have z1 : decide (s.a < 0) = true := decide_eq_true a1
        go_wp2_with fail
        go_ret
        exact ⟨by rw [unhide HQ, alls_not _ (unhide HX) (sp_no (by omega))]; simp, ba (unhide HB2) _⟩
      have z1 : decide (s.a < 0) = false := decide_eq_false a1
      by_cases a2 : N ≤ s.a
      · have z2 : decide (N ≤ s.a) = true := decide_eq_true a2
        go_wp2_with fail
        go_ret
        exact ⟨by rw [unhide HQ, alls_not _ (unhide HX) (sp_no (by omega))]; simp, ba (unhide HB2) _⟩
      have z2 : decide (N ≤ s.a) = false := decide_eq_false a2
      by_cases a3 : s.b < -1
      · have z3 : decide (s.b < -1) = true := decide_eq_true a3
        go_wp2_with fail
        go_ret
        exact ⟨by rw [unhide HQ, alls_not _ (unhide HX) (sp_no (by omega))]; simp, ba (unhide HB2) _⟩
      have z3 : decide (s.b < -1) = false := decide_eq_false a3
      by_cases a4 : N ≤ s.b
      · have z4 : decide (N ≤ s.b) = true := decide_eq_true a4
        go_wp2_with fail
        go_ret
        exact ⟨by rw [unhide HQ, alls_not _ (unhide HX) (sp_no (by omega))]; simp, ba (unhide HB2) _⟩
      have z4 : decide (N ≤ s.b) = false := decide_eq_false a4
      by_cases a5 : s.a = s.b
      · have z5 : (s.a == s.b) = true := by simp [a5]
        have HNO := hide (alls_not _ (unhide HX) (sp_no (n := N) (s := s) (by omega)))
        clear a5
        go_wp2_with fail
        go_ret
        exact ⟨by rw [unhide HQ, unhide HNO]; simp, ba (unhide HB2) _⟩
      have z5 : (s.a == s.b) = false := by simp [a5]
      by_cases a6 : s.k < 1
      · have z6 : decide (s.k < 1) = true := decide_eq_true a6
        go_wp2_with fail
        go_ret
        exact ⟨by rw [unhide HQ, alls_not _ (unhide HX) (sp_no (by omega))]; simp, ba (unhide HB2) _⟩
      have z6 : decide (s.k < 1) = false := decide_eq_false a6
      by_cases a7 : 1000 < s.k
      · have z7 : decide (1000 < s.k) = true := decide_eq_true a7
        go_wp2_with fail
        go_ret
        exact ⟨by rw [unhide HQ, alls_not _ (unhide HX) (sp_no (by omega))]; simp, ba (unhide HB2) _⟩
      have z7 : decide (1000 < s.k) = false := decide_eq_false a7
      have HOK := hide (sp_yes (n := N) (s := s) (by omega))
      go_wp2_with fail
      go_roundw
      case rel => first | exact ⟨i + 1, by simp, h, by rw [unhide HAX, unhide HA, unhide HOK]; rfl, ba (unhide HB2) _, (unhide HV2).bel (ba (Below.refl _ _) _)⟩ | ((repeat apply Exists.intro); refine ⟨?_, rfl⟩; exact ⟨i + 1, by simp, h, by rw [unhide HAX, unhide HA, unhide HOK]; rfl, ba (unhide HB2) _, (unhide HV2).bel (ba (Below.refl _ _) _)⟩)
      case measure => first | (simp only [intOf]; omega) | (simp [intOf]; omega)
    · have iz : decide ((i : Int) < (ns : Int)) = false := decide_eq_false (by omega)
      have HE : Hid (S.all (spOk N) = true) := hide (by have := unhide HA; rwa [List.take_of_length_le (by rw [unhide HS]; omega)] at this)
      clear hb
      go_wp2_with fail
      go_ret
      exact ⟨by rw [unhide HQ, unhide HE, unhide HI, unhide HT5]; simp [unhide HN, (by omega : ns ≤ 20)], unhide HB2⟩
end Go.Proofs.Ytjbbpllmojiaoaa
