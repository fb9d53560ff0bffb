/-
  The program's question whether links are right.
-/
import Derived.Test.YtmhdodecofpchaaLkFns
import Derived.Test.YtmhdodecofpchaaMpMath
namespace Go.Proofs.Ytmhdodecofpchaa
open Go.ChangeShapes Go.WideShapes Go.ChangeAt Go.RowKit Go.Maps Go.WideMaps
set_option linter.unusedVariables false
set_option linter.unusedSimpArgs false

set_option maxHeartbeats 1000000 in
theorem wrong_any (s : ByteArray) (a b c d : Int) (w : World) (hs : s.size ≤ maxLen) : Calls Try.prog 56 #[.agg #[.string s, .int .i64 a, .int .i64 b, .int .i64 c, .int .i64 d]] w fun e w' => e = .returned (.bool (!lkOk ⟨s, a, b, c, d⟩)) ∧ Below w.heap.size w w' := by
  have HN := hide (fun W => implName_any s W hs)
  have HZ := hide (fun W => btw_any b (-100000) 100000 W)
  have HC := hide (fun W => btw_any c 0 100000 W)
  have HD := hide (fun W => btw_any d 0 100000 W)
  have eC : btw c 0 100000 = szOk c := rfl
  have eD : btw d 0 100000 = szOk d := rfl
  have hv : lkOk ⟨s, a, b, c, d⟩ = (nameB s && decide (a = 1 ∨ a = -1) && btw b (-100000) 100000 && szOk c && szOk d) := rfl
  rw [hv]
  rw [eC] at HC
  rw [eD] at HD
  clear eC eD hv
  generalize btw b (-100000) 100000 = z at *
  generalize szOk c = y at *
  generalize szOk d = x at *
  generalize nameB s = nb at *
  cases nb
  · show Calls _ _ _ _ fun e w' => e = .returned (.bool true) ∧ _
    go_enter Try.func56, Try.ntmps56
    go_wp2_with fail
    refine (unhide HN _).mono ?_
    rintro e W1 ⟨rfl, hb⟩
    have c0 := keep1 hb (b := w.heap.size) (o := 0) (v := .string s) (by simp [go_sem])
    have c1 := keep1 hb (b := w.heap.size) (o := 1) (v := .int .i64 a) (by simp [go_sem])
    have c2 := keep1 hb (b := w.heap.size) (o := 2) (v := .int .i64 b) (by simp [go_sem])
    have c3 := keep1 hb (b := w.heap.size) (o := 3) (v := .int .i64 c) (by simp [go_sem])
    have c4 := keep1 hb (b := w.heap.size) (o := 4) (v := .int .i64 d) (by simp [go_sem])
    have HB := hide (bc (ba (Below.refl _ _) _) hb)
    clear hb
    go_wp2_with fail
    go_ret
    exact ⟨rfl, unhide HB⟩
  by_cases q1 : a = 1 ∨ a = -1
  rotate_left
  · rw [decide_eq_false q1]
    show Calls _ _ _ _ fun e w' => e = .returned (.bool true) ∧ _
    have a1 : (a == 1) = false := by rw [beq_eq_false_iff_ne]; omega
    have a2 : (a == -1) = false := by rw [beq_eq_false_iff_ne]; omega
    clear q1
    go_enter Try.func56, Try.ntmps56
    go_wp2_with fail
    refine (unhide HN _).mono ?_
    rintro e W1 ⟨rfl, hb⟩
    have c0 := keep1 hb (b := w.heap.size) (o := 0) (v := .string s) (by simp [go_sem])
    have c1 := keep1 hb (b := w.heap.size) (o := 1) (v := .int .i64 a) (by simp [go_sem])
    have c2 := keep1 hb (b := w.heap.size) (o := 2) (v := .int .i64 b) (by simp [go_sem])
    have c3 := keep1 hb (b := w.heap.size) (o := 3) (v := .int .i64 c) (by simp [go_sem])
    have c4 := keep1 hb (b := w.heap.size) (o := 4) (v := .int .i64 d) (by simp [go_sem])
    have HB := hide (bc (ba (Below.refl _ _) _) hb)
    clear hb
    go_wp2_with fail
    go_ret
    exact ⟨rfl, unhide HB⟩
  rw [decide_eq_true q1]
  have HQ : Hid (((a == 1) = true ∧ True) ∨ ((a == 1) = false ∧ (a == -1) = true)) := hide (by rcases q1 with e | e <;> subst e; exact .inl ⟨rfl, trivial⟩; exact .inr ⟨rfl, rfl⟩)
  clear q1
  cases z
  · show Calls _ _ _ _ fun e w' => e = .returned (.bool true) ∧ _
    rcases unhide HQ with ⟨a1, a2⟩ | ⟨a1, a2⟩ <;>
    · go_enter Try.func56, Try.ntmps56
      go_wp2_with fail
      refine (unhide HN _).mono ?_
      rintro e W1 ⟨rfl, hb⟩
      have c0 := keep1 hb (b := w.heap.size) (o := 0) (v := .string s) (by simp [go_sem])
      have c1 := keep1 hb (b := w.heap.size) (o := 1) (v := .int .i64 a) (by simp [go_sem])
      have c2 := keep1 hb (b := w.heap.size) (o := 2) (v := .int .i64 b) (by simp [go_sem])
      have c3 := keep1 hb (b := w.heap.size) (o := 3) (v := .int .i64 c) (by simp [go_sem])
      have c4 := keep1 hb (b := w.heap.size) (o := 4) (v := .int .i64 d) (by simp [go_sem])
      have HB := hide (bc (ba (Below.refl _ _) _) hb)
      clear hb
      go_wp2_with fail
      refine (unhide HZ _).mono ?_
      rintro e W2 ⟨rfl, rfl⟩
      go_wp2_with fail
      go_ret
      exact ⟨rfl, unhide HB⟩
  cases y
  · show Calls _ _ _ _ fun e w' => e = .returned (.bool true) ∧ _
    rcases unhide HQ with ⟨a1, a2⟩ | ⟨a1, a2⟩ <;>
    · go_enter Try.func56, Try.ntmps56
      go_wp2_with fail
      refine (unhide HN _).mono ?_
      rintro e W1 ⟨rfl, hb⟩
      have c0 := keep1 hb (b := w.heap.size) (o := 0) (v := .string s) (by simp [go_sem])
      have c1 := keep1 hb (b := w.heap.size) (o := 1) (v := .int .i64 a) (by simp [go_sem])
      have c2 := keep1 hb (b := w.heap.size) (o := 2) (v := .int .i64 b) (by simp [go_sem])
      have c3 := keep1 hb (b := w.heap.size) (o := 3) (v := .int .i64 c) (by simp [go_sem])
      have c4 := keep1 hb (b := w.heap.size) (o := 4) (v := .int .i64 d) (by simp [go_sem])
      have HB := hide (bc (ba (Below.refl _ _) _) hb)
      clear hb
      go_wp2_with fail
      refine (unhide HZ _).mono ?_
      rintro e W2 ⟨rfl, rfl⟩
      go_wp2_with fail
      refine (unhide HC _).mono ?_
      rintro e W2 ⟨rfl, rfl⟩
      go_wp2_with fail
      go_ret
      exact ⟨rfl, unhide HB⟩
  cases x
  · show Calls _ _ _ _ fun e w' => e = .returned (.bool true) ∧ _
    rcases unhide HQ with ⟨a1, a2⟩ | ⟨a1, a2⟩ <;>
    · go_enter Try.func56, Try.ntmps56
      go_wp2_with fail
      refine (unhide HN _).mono ?_
      rintro e W1 ⟨rfl, hb⟩
      have c0 := keep1 hb (b := w.heap.size) (o := 0) (v := .string s) (by simp [go_sem])
      have c1 := keep1 hb (b := w.heap.size) (o := 1) (v := .int .i64 a) (by simp [go_sem])
      have c2 := keep1 hb (b := w.heap.size) (o := 2) (v := .int .i64 b) (by simp [go_sem])
      have c3 := keep1 hb (b := w.heap.size) (o := 3) (v := .int .i64 c) (by simp [go_sem])
      have c4 := keep1 hb (b := w.heap.size) (o := 4) (v := .int .i64 d) (by simp [go_sem])
      have HB := hide (bc (ba (Below.refl _ _) _) hb)
      clear hb
      go_wp2_with fail
      refine (unhide HZ _).mono ?_
      rintro e W2 ⟨rfl, rfl⟩
      go_wp2_with fail
      refine (unhide HC _).mono ?_
      rintro e W2 ⟨rfl, rfl⟩
      go_wp2_with fail
      refine (unhide HD _).mono ?_
      rintro e W2 ⟨rfl, rfl⟩
      go_wp2_with fail
      go_ret
      exact ⟨rfl, unhide HB⟩
  · show Calls _ _ _ _ fun e w' => e = .returned (.bool false) ∧ _
    rcases unhide HQ with ⟨a1, a2⟩ | ⟨a1, a2⟩ <;>
    · go_enter Try.func56, Try.ntmps56
      go_wp2_with fail
      refine (unhide HN _).mono ?_
      rintro e W1 ⟨rfl, hb⟩
      have c0 := keep1 hb (b := w.heap.size) (o := 0) (v := .string s) (by simp [go_sem])
      have c1 := keep1 hb (b := w.heap.size) (o := 1) (v := .int .i64 a) (by simp [go_sem])
      have c2 := keep1 hb (b := w.heap.size) (o := 2) (v := .int .i64 b) (by simp [go_sem])
      have c3 := keep1 hb (b := w.heap.size) (o := 3) (v := .int .i64 c) (by simp [go_sem])
      have c4 := keep1 hb (b := w.heap.size) (o := 4) (v := .int .i64 d) (by simp [go_sem])
      have HB := hide (bc (ba (Below.refl _ _) _) hb)
      clear hb
      go_wp2_with fail
      refine (unhide HZ _).mono ?_
      rintro e W2 ⟨rfl, rfl⟩
      go_wp2_with fail
      refine (unhide HC _).mono ?_
      rintro e W2 ⟨rfl, rfl⟩
      go_wp2_with fail
      refine (unhide HD _).mono ?_
      rintro e W2 ⟨rfl, rfl⟩
      go_wp2_with fail
      go_ret
      exact ⟨rfl, unhide HB⟩

/-- the first link that is not right, or none -/
theorem idx_any (u : Option Addr) (p po n cu : Nat) (ls : List Lk) (w : World) (hl : ls.length = n) (hn : n ≤ 1048576) (hsz : ∀ l ∈ ls, l.nm.size ≤ 1048576) (hu : Lks w u p po ls) :
    Calls Try.prog 71 #[.slice u n cu, .func (.func 56) #[] #[]] w fun e w' => (∃ r : Int, e = .returned (.int .i64 r) ∧ decide (0 ≤ r) = badB ls) ∧ Below w.heap.size w w' := by
  have HU := hide hu
  have HL := hide hl
  have HS := hide hsz
  have n0 : (0 : Int) ≤ (n : Int) := Int.natCast_nonneg _
  clear hu hl hsz
  have E52 := enters52
  go_enter Try.func71, Try.ntmps71
  go_wp2
  go_loopw [8] (fun z W => ∃ i : Nat, z = .int .i64 (i : Int) ∧ i ≤ n ∧ (∀ l ∈ ls.take i, lkOk l = true) ∧ Below w.heap.size w W) (fun z _ => n - (intOf z).toNat)
  case atStart => exact ⟨0, rfl, Nat.zero_le _, by simp, Below.refl _ _⟩
  case round =>
    obtain ⟨i, rfl, hi, hall, hw⟩ := hrel
    have HW := hide hw
    have HA := hide hall
    clear hw hall
    by_cases h : i < n
    · have i1 : (i : Int) < (n : Int) := by omega
      have i0 : (0 : Int) ≤ (i : Int) := Int.natCast_nonneg _
      have iz : decide ((i : Int) < (n : Int)) = true := decide_eq_true i1
      obtain ⟨⟨s, a, b, c, d⟩, hx⟩ := get_some (unhide HL) h
      obtain ⟨rfl, pw, k0, k1, k2, k3, k4⟩ := ((unhide HU).bel (unhide HW)).at hx
      simp only at k0 k1 k2 k3 k4
      have HX := hide hx
      have HN := hide (fun W => wrong_any s a b c d W (Nat.le_trans (unhide HS _ (List.mem_of_getElem? hx)) (by decide)))
      clear pw hx
      by_cases q : lkOk ⟨s, a, b, c, d⟩ = true
      · rw [q] at HN
        go_wp2_with fail
        refine (unhide HN _).mono ?_
        rintro e W1 ⟨rfl, hb⟩
        have HB := hide (bc (unhide HW) hb)
        clear hb
        go_wp2_with fail
        go_roundw
        case rel => exact ⟨i + 1, by simp, h, (take_succ_mem (unhide HX) (fun l => lkOk l = true)).2 ⟨unhide HA, q⟩, unhide HB⟩
        case measure => simp only [intOf]; omega
      · have q' : lkOk ⟨s, a, b, c, d⟩ = false := by simpa using q
        rw [q'] at HN
        go_wp2_with fail
        refine (unhide HN _).mono ?_
        rintro e W1 ⟨rfl, hb⟩
        have HB := hide (bc (unhide HW) hb)
        clear hb
        go_wp2_with fail
        go_ret
        refine ⟨⟨(i : Int), rfl, ?_⟩, unhide HB⟩
        have hb : badB ls = true := by
          unfold badB
          rw [List.any_eq_true]
          exact ⟨_, List.mem_of_getElem? (unhide HX), by rw [q']; rfl⟩
        first | exact hb.symm | (rw [hb]; exact decide_eq_true i0)
    · have i1 : ¬ (i : Int) < (n : Int) := by omega
      have iz : decide ((i : Int) < (n : Int)) = false := decide_eq_false i1
      go_wp2_with fail
      go_ret
      refine ⟨⟨-1, rfl, ?_⟩, unhide HW⟩
      have hb : badB ls = false := by
        unfold badB
        rw [List.any_eq_false]
        intro l hl
        have h1 := unhide HA
        rw [List.take_of_length_le (by rw [unhide HL]; omega)] at h1
        simp [h1 l hl]
      rw [hb]
      rfl
theorem has_any (u : Option Addr) (p po n cu : Nat) (ls : List Lk) (w : World) (hl : ls.length = n) (hn : n ≤ 1048576) (hsz : ∀ l ∈ ls, l.nm.size ≤ 1048576) (hu : Lks w u p po ls) :
    Calls Try.prog 55 #[.slice u n cu, .func (.func 56) #[] #[]] w fun e w' => e = .returned (.bool (badB ls)) ∧ Below w.heap.size w w' := by
  have HI := hide (idx_any u p po n cu ls w hl hn hsz hu)
  clear hu hsz
  go_enter Try.func55, Try.ntmps55
  go_wp2_with fail
  refine (unhide HI).mono ?_
  rintro e W1 ⟨⟨r, rfl, hr⟩, hb⟩
  have HB := hide hb
  clear hb
  go_wp2_with fail
  go_ret
  exact ⟨ret_bool (by first | rfl | simpa using hr | exact hr), unhide HB⟩
end Go.Proofs.Ytmhdodecofpchaa
