/-
  What the laws ask of fields: how great they are, that one is made of another, that two are the same, that one is written over, that it is held.
-/
import Derived.Test.YtjhldjojkaphkaaFdOk
namespace Go.Proofs.Ytjhldjojkaphkaa
open Go.ChangeShapes Go.WideShapes Go.ChangeAt Go.RowKit
set_option linter.unusedVariables false
set_option linter.unusedSimpArgs false

theorem int_info3 : (Try.prog.info? 3).map (fun i => (i.zero, i.size, i.bytes)) = some (some (.int .i64 0), 1, 8) := by kernel_rfl
theorem it_sz_in (u : Option Addr) (n cu : Nat) (c : Int) (w : World) (hc : c ≤ 1048576) (hn : (n : Int) ≤ c) :
    Calls Try.prog 58 #[.slice u n cu, .int .i64 c] w fun e w' => e = .returned (.int .i64 (c - n)) ∧ w' = w := by
  have t : decide (c - (n : Int) < 0) = false := decide_eq_false (by omega)
  have n0 : (0 : Int) ≤ (n : Int) := Int.natCast_nonneg _
  go_enter Try.func58, Try.ntmps58
  go_wp2
  go_ret
  exact ⟨rfl, rfl⟩
theorem it_sz_out (u : Option Addr) (n cu : Nat) (c : Int) (w : World) (hc0 : -1 ≤ c) (hc : c ≤ 1048576) (hn : c < (n : Int)) (hm : n ≤ 9223372036854775807) :
    Calls Try.prog 58 #[.slice u n cu, .int .i64 c] w fun e w' => e = .returned (.int .i64 (-1)) ∧ w' = w := by
  have t : decide (c - (n : Int) < 0) = true := decide_eq_true (by omega)
  have n0 : (0 : Int) ≤ (n : Int) := Int.natCast_nonneg _
  go_enter Try.func58, Try.ntmps58
  go_wp2
  go_ret
  exact ⟨rfl, rfl⟩
theorem fd_sz_in (W H : Int) (u : Option Addr) (n cu : Nat) (c : Int) (w : World) (hc : c ≤ 1048576) (hn : (n : Int) ≤ c) :
    Calls Try.prog 21 #[fldV W H u n cu, .int .i64 c] w fun e w' => e = .returned (.int .i64 (c - n)) ∧ Below w.heap.size w w' := by
  have t : decide (c - (n : Int) < 0) = false := decide_eq_false (by omega)
  unfold fldV
  go_enter Try.func21, Try.ntmps21
  go_wp2_with fail
  refine (it_sz_in u n cu c _ hc hn).mono ?_
  rintro e w' ⟨rfl, rfl⟩
  go_wp2_with fail
  go_ret
  exact ⟨rfl, ba (Below.refl _ _) _⟩
theorem fd_sz_out (W H : Int) (u : Option Addr) (n cu : Nat) (c : Int) (w : World) (hc0 : -1 ≤ c) (hc : c ≤ 1048576) (hn : c < (n : Int)) (hm : n ≤ 9223372036854775807) :
    Calls Try.prog 21 #[fldV W H u n cu, .int .i64 c] w fun e w' => e = .returned (.int .i64 (-1)) ∧ Below w.heap.size w w' := by
  unfold fldV
  go_enter Try.func21, Try.ntmps21
  go_wp2_with fail
  refine (it_sz_out u n cu c _ hc0 hc hn hm).mono ?_
  rintro e w' ⟨rfl, rfl⟩
  go_wp2_with fail
  go_ret
  exact ⟨rfl, ba (Below.refl _ _) _⟩
set_option maxHeartbeats 1000000 in
theorem it_to (u : Option Addr) (p po n cu : Nat) (L : List Int) (w : World) (hl : L.length = n) (hn : n ≤ 1048576) (hu : Its w u p po L) :
    Calls Try.prog 59 #[.slice u n cu] w fun e w' => (∃ g, e = .returned (.slice (some ⟨g, 0, none⟩) n n) ∧ w.heap.size ≤ g ∧ iblk w' g 3 L) ∧ Below w.heap.size w w' := by
  have HU := hide hu
  have HL := hide hl
  have n0 : (0 : Int) ≤ (n : Int) := Int.natCast_nonneg _
  clear hu hl
  have hmk := fun W => make_ints (P := Try.prog) 23 3 1 8 n Try.underlying23 (.int .i64 0) (by rfl) (by omega) int_info3 (by omega) (by omega) W
  rw [Nat.mul_one] at hmk
  generalize hzz : zeros n = Z at hmk
  have HZ := hide hzz
  clear hzz
  go_enter Try.func59, Try.ntmps59
  go_wp2_with fail
  have HG0 := hide (iblk_new w 3 Z)
  have HB0 := hide (ba (Below.refl w.heap.size w) (.cells (Z.map (Value.int .i64)).toArray 3))
  clear hmk
  go_loopw [4] (fun z W => ∃ i : Nat, z = .int .i64 (i : Int) ∧ i ≤ n ∧ iblk W w.heap.size 3 (L.take i ++ zeros (L.length - i)) ∧ Below w.heap.size w W) (fun z _ => n - (intOf z).toNat)
  case atStart =>
    refine ⟨0, rfl, Nat.zero_le _, ?_, unhide HB0⟩
    have e : L.take 0 ++ zeros (L.length - 0) = Z := by rw [unhide HL, ← unhide HZ]; simp
    rw [e]
    exact unhide HG0
  case round =>
    obtain ⟨i, rfl, hi, hb, hw⟩ := hrel
    have HB := hide hb
    have HW := hide hw
    clear hb hw HG0 HB0
    by_cases h : i < n
    · have i1 : (i : Int) < (n : Int) := by omega
      have i0 : (0 : Int) ≤ (i : Int) := Int.natCast_nonneg _
      have iz : decide ((i : Int) < (n : Int)) = true := decide_eq_true i1
      obtain ⟨x, hx⟩ := get_some (unhide HL) h
      obtain ⟨rfl, pw, k0⟩ := (unhide HU).at hx
      have k1 := (unhide HW).cell (p := ⟨p, po + i, none⟩) pw |>.trans k0
      have j0 : i + 0 < L.length := by rw [unhide HL]; exact h
      have m0 : wr.cell? ⟨w.heap.size, i, none⟩ = some (.int .i64 0) := (unhide HB).cell (fill_at L i 0 j0)
      have fz : ∀ o, wr.frozen? ⟨w.heap.size, o, none⟩ = false := (unhide HB).frozen
      have HF := hide (fill_step L i j0 x hx)
      clear k0 hx pw j0
      go_wp2_with fail
      go_roundw
      case rel =>
        refine ⟨i + 1, by simp, h, ?_, ?_⟩
        · have h1 := (unhide HB).set i x
          rw [unhide HF] at h1
          exact h1
        · exact Below.setCell (unhide HW) (Nat.le_refl _) _
      case measure => simp only [intOf]; omega
    · have i1 : ¬ (i : Int) < (n : Int) := by omega
      have iz : decide ((i : Int) < (n : Int)) = false := decide_eq_false i1
      have en : i = n := by omega
      subst en
      go_wp2_with fail
      go_ret
      refine ⟨⟨_, rfl, Nat.le_refl _, ?_⟩, unhide HW⟩
      have h1 := unhide HB
      rw [List.take_of_length_le (by rw [unhide HL]; omega), show L.length - i = 0 by rw [unhide HL]; omega] at h1
      simpa [zeros] using h1
theorem fd_same (W H : Int) (u v : Option Addr) (p po q qo n cu cv : Nat) (L : List Int) (w : World) (hl : L.length = n) (hn : n ≤ 1048576)
    (hu : Its w u p po L) (hv : Its w v q qo L) :
    Calls Try.prog 24 #[fldV W H u n cu, fldV W H v n cv] w fun e w' => e = .returned (.bool true) ∧ Below w.heap.size w w' := by
  have HS := hide (fun X (hX : Below w.heap.size w X) => it_same u v p po q qo n cu cv L X hl hn (hu.bel hX) (hv.bel hX))
  have HB := hide (ba (ba (Below.refl w.heap.size w) (.cells #[.int .i64 W, .int .i64 H, .slice u n cu] 25)) (.cells #[.int .i64 W, .int .i64 H, .slice v n cv] 25))
  have ww : (W != W) = false := by simp
  have hh : (H != H) = false := by simp
  unfold fldV
  clear hl hu hv
  go_enter Try.func24, Try.ntmps24
  go_wp2_with fail
  refine (unhide HS _ (unhide HB)).mono ?_
  rintro e w' ⟨rfl, hb⟩
  have HB2 := hide (bc (unhide HB) hb)
  clear hb
  go_wp2_with fail
  go_ret
  exact ⟨rfl, unhide HB2⟩
set_option maxHeartbeats 1000000 in
theorem fd_to (W H : Int) (u : Option Addr) (p po n cu : Nat) (L : List Int) (w : World) (hl : L.length = n) (hn : n ≤ 1048576) (hu : Its w u p po L) :
    Calls Try.prog 22 #[fldV W H u n cu] w fun e w' => (∃ g, e = .returned (fldV W H (some ⟨g, 0, none⟩) n n) ∧ w.heap.size ≤ g ∧ iblk w' g 3 L) ∧ Below w.heap.size w w' := by
  have HT := hide (fun X (hX : Below w.heap.size w X) => it_to u p po n cu L X hl hn (hu.bel hX))
  unfold fldV
  clear hl hu
  go_enter Try.func22, Try.ntmps22
  go_wp2_with fail
  refine (unhide HT _ ?_).mono ?_
  · repeat (first | exact Below.refl _ _ | refine Below.setCell ?_ (by simp) _ | refine ba ?_ _)
  rintro e w' ⟨⟨g, rfl, hg, hk⟩, hb⟩
  have v1 : vb w' (w.heap.size + 1 + 1) 25 [.int .i64 W, .int .i64 H, .slice none 0 0] := (vb_new ((w.alloc (.cells #[.int .i64 W, .int .i64 H, .slice u n cu] 49)).alloc (.cells #[.int .i64 0, .int .i64 0, .slice none 0 0] 25)) 25 [.int .i64 W, .int .i64 H, .slice none 0 0] (w.heap.size + 1 + 1) (by simp)).bel hb
  have v2 : vb w' (w.heap.size + 1) 25 [.int .i64 0, .int .i64 0, .slice none 0 0] := ((vb_new (w.alloc (.cells #[.int .i64 W, .int .i64 H, .slice u n cu] 49)) 25 [.int .i64 0, .int .i64 0, .slice none 0 0] (w.heap.size + 1) (by simp)).bel (ba (Below.refl _ _) _)).bel hb
  have HB : Hid (Below w.heap.size w w') := hide (bc (ba (ba (ba (Below.refl _ _) _) _) _) hb)
  have HG : Hid (w.heap.size + 3 ≤ g) := hide (by simpa using hg)
  have HK := hide hk
  have c0 := v1.cell (m := 0) rfl
  have c1 := v1.cell (m := 1) rfl
  have c2 := v1.cell (m := 2) rfl
  have f1 := v1.frozen
  have d0 := v2.cell (m := 0) rfl
  have d1 := v2.cell (m := 1) rfl
  have d2 := v2.cell (m := 2) rfl
  have f2 := v2.frozen
  clear hb hg hk v1 v2
  go_wp2_with fail
  refine bodyPost_ret (v := .agg #[.int .i64 W, .int .i64 H, .slice (some ⟨g, 0, none⟩) n n]) (by simp [results, Try.results22, go_sem, c0, c1, c2, d0, d1, d2]) rfl ?_
  refine ⟨⟨g, rfl, by have := unhide HG; omega, ?_⟩, ?_⟩
  · have hg := unhide HG
    exact (((iblk.ne (unhide HK) (by omega)).ne (by omega)).ne (by omega)).ne (by omega)
  · exact Below.setCell (Below.setCell (Below.setCell (Below.setCell (unhide HB) (by show w.heap.size ≤ w.heap.size + 1 + 1; omega) _) (Nat.le_add_right _ _) _) (Nat.le_add_right _ _) _) (Nat.le_add_right _ _) _
end Go.Proofs.Ytjhldjojkaphkaa
