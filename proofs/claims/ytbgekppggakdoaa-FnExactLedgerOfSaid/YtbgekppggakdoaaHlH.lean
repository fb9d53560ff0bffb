/-
  The hall behind a plan: the program's PlanCode.
-/
import Derived.Test.YtbgekppggakdoaaHlG
import Derived.Test.YtbgekppggakdoaaBdP
namespace Go.Proofs.Ytbgekppggakdoaa
open Go.ChangeShapes Go.WideShapes Go.ChangeAt Go.RowKit
set_option linter.unusedVariables false
set_option linter.unusedSimpArgs false

theorem int_info3 : (Try.prog.info? 3).map (fun i => (i.zero, i.size, i.bytes)) = some (some (.int .i64 0), 1, 8) := by kernel_rfl
set_option maxHeartbeats 2000000 in
set_option maxRecDepth 100000 in
theorem numb_any (n : Nat) (w : World) (hn : n ≤ 4096) :
    Calls Try.prog 61 #[.int .i64 (n : Int)] w fun e w' => (∃ g, e = .returned (.slice (some ⟨g, 0, none⟩) n n) ∧ w.heap.size ≤ g ∧ iblk w' g 3 (marks 0 n)) ∧ Below w.heap.size w w' := by
  have hmk := fun W => make_ints (P := Try.prog) 41 3 1 8 n Try.underlying41 (.int .i64 0) (by rfl) (by omega) int_info3 (by omega) (by omega) W
  rw [Nat.mul_one] at hmk
  have HML : Hid ((marks 0 n).length = n) := hide (marks_len 0 n)
  have n0 : (0 : Int) ≤ (n : Int) := Int.natCast_nonneg _
  generalize hZ : zeros n = Z at hmk
  have HZ := hide hZ
  clear hZ
  go_enter Try.func61, Try.ntmps61
  go_wp2_with fail
  have Z3 := hide (iblk_new w 3 Z)
  have Z5 := hide (ba (Below.refl w.heap.size w) (.cells (Z.map (Value.int .i64)).toArray 3))
  clear hmk
  generalize w.alloc (.cells (Z.map (Value.int .i64)).toArray 3) = WA at *
  obtain ⟨D, hD⟩ : ∃ R, w.heap.size = R := ⟨_, rfl⟩
  rw [hD] at Z3 Z5 ⊢
  have HD := hide hD
  clear hD
  go_loopw [9] (fun z W => ∃ i : Nat, z = .int .i64 (i : Int) ∧ i ≤ n ∧ iblk W D 3 ((marks 0 n).take i ++ zeros ((marks 0 n).length - i)) ∧ Below D w W) (fun z _ => n - (intOf z).toNat)
  case atStart =>
    refine ⟨0, rfl, Nat.zero_le _, ?_, unhide Z5⟩
    rw [unhide HML, List.take_zero, List.nil_append, Nat.sub_zero, unhide HZ]; exact unhide Z3
  case round =>
    obtain ⟨i, rfl, hi, hc, hw⟩ := hrel
    have HC := hide hc
    have HW := hide hw
    clear Z3 Z5
    by_cases h : i < n
    · have i1 : decide ((i : Int) < (n : Int)) = true := decide_eq_true (by omega)
      have i0 : (0 : Int) ≤ (i : Int) := Int.natCast_nonneg _
      have i2 : (i : Int) < (n : Int) := by omega
      have k0 : i + 0 < (marks 0 n).length := by rw [unhide HML]; omega
      have cc := hc.cell (fill_at (marks 0 n) i 0 k0)
      simp only [Nat.add_zero] at cc
      have fc : ∀ o, wr.frozen? ⟨D, o, none⟩ = false := hc.frozen
      have HSC := hide (fill_step (marks 0 n) i k0 _ (by have := marks_at 0 n i h; rw [Int.zero_add] at this; exact this))
      clear hc k0 hw
      go_wp2_with fail
      go_roundw
      case rel =>
        refine ⟨i + 1, by simp, h, ?_, ?_⟩
        · rw [← unhide HSC]; exact (unhide HC).set i _
        · exact Below.setCell (unhide HW) (Nat.le_refl _) _
      case measure => simp only [intOf]; omega
    · have i1 : decide ((i : Int) < (n : Int)) = false := decide_eq_false (by omega)
      have en : i = n := by omega
      subst en
      have ec : (marks 0 i).take i ++ zeros ((marks 0 i).length - i) = marks 0 i := by rw [List.take_of_length_le (by rw [unhide HML]; omega), unhide HML, Nat.sub_self]; simp [zeros]
      rw [ec] at hc
      have HC2 := hide hc
      clear hc hw ec HC
      go_wp2_with fail
      go_ret
      first | exact ⟨⟨D, rfl, Nat.le_refl _, unhide HC2⟩, unhide HW⟩ | exact ⟨⟨D, rfl, Nat.le_of_eq (unhide HD), unhide HC2⟩, by rw [unhide HD]; exact unhide HW⟩
set_option maxHeartbeats 2000000 in
theorem ixL_any (hb gm gs m : Nat) (S L : Int) (u : Option Addr) (p po n c : Nat) (J : List Jb) (h9 : Hl) (g : Nat) (w : World) (hn : n ≤ 4096) (H : Hm w hb gm gs m S L u n c h9) (hl : J.length = n) (hu : Jbs w u p po J) (hg : iblk w g 3 (marks 0 n)) :
    Calls Try.prog 73 #[.slice (some ⟨g, 0, none⟩) n n, .func (.func 62) #[.pointer (some ⟨hb, 0, none⟩)] #[]] w fun e w' => (∃ r : Int, e = .returned (.int .i64 r) ∧ decide (0 ≤ r) = anyL J h9) ∧ Below w.heap.size w w' := by
  have HG := hide (fun W (hW : Below w.heap.size w W) => hg.bel hW)
  have HL : Hid (anyL J h9 = (List.range n).any (lft J h9)) := hide (by unfold anyL; rw [hl])
  have HC : Hid (∀ q, q < n → ∀ W, Below w.heap.size w W → Calls Try.prog 62 #[.pointer (some ⟨hb, 0, none⟩), .int .i64 (q : Int)] W fun e w' => e = .returned (.bool (lft J h9 q)) ∧ Below W.heap.size W w') := hide (fun q hq W hW => hasL_any hb gm gs m S L u p po n c J h9 q W hq hn (H.bel hW) hl (hu.bel hW))
  have n0 : (0 : Int) ≤ (n : Int) := Int.natCast_nonneg _
  clear H hu hl hg
  generalize hqv : (.pointer (some ⟨hb, 0, none⟩) : Value) = qv at HC ⊢
  clear hqv
  go_enter Try.func73, Try.ntmps73
  go_wp2_with fail
  go_loopw [5, 8] (fun _ s W => ∃ i : Nat, s = .int .i64 (i : Int) ∧ i ≤ n ∧ (∀ q, q < i → lft J h9 q = false) ∧ Below w.heap.size w W) (fun _ s _ => n - (intOf s).toNat)
  case atStart => exact ⟨0, rfl, Nat.zero_le _, fun q hq => absurd hq (by omega), Below.refl _ _⟩
  case round =>
    obtain ⟨i, rfl, hi, ha, hb⟩ := hrel
    have HA := hide ha
    have HB := hide hb
    clear ha
    by_cases h : i < n
    · have i1 : (i : Int) < (n : Int) := by omega
      have i0 : (0 : Int) ≤ (i : Int) := Int.natCast_nonneg _
      have iz : decide ((i : Int) < (n : Int)) = true := decide_eq_true i1
      have k0 := (unhide HG _ hb).cell (marks_at 0 n i h)
      rw [Int.zero_add] at k0
      have HCs := hide (unhide HC i h)
      clear hb
      go_wp2_with fail
      refine (unhide HCs _ (unhide HB)).mono ?_
      rintro e W2 ⟨rfl, hb2⟩
      have HB2 := hide (bc (unhide HB) hb2)
      clear hb2
      cases hto : lft J h9 i with
      | false =>
        go_wp2_with fail
        go_roundw
        case rel =>
          have r : ∀ q, q < i + 1 → lft J h9 q = false := by
            intro q hq
            by_cases e : q = i
            · rw [e]; exact hto
            · exact unhide HA q (by omega)
          first | exact ⟨i + 1, by simp, h, r, unhide HB2⟩ | ((repeat apply Exists.intro); refine ⟨?_, rfl⟩; exact ⟨i + 1, by simp, h, r, unhide HB2⟩)
        case measure => first | (simp only [intOf]; omega) | (simp [intOf]; omega)
      | true =>
        have HE : Hid (anyL J h9 = true) := hide (by rw [unhide HL, List.any_eq_true]; exact ⟨i, by simpa using h, hto⟩)
        go_wp2_with fail
        go_ret
        refine ⟨⟨_, rfl, ?_⟩, unhide HB2⟩
        rw [unhide HE]
        simp
    · have iz : decide ((i : Int) < (n : Int)) = false := decide_eq_false (by omega)
      have HE : Hid (anyL J h9 = false) := hide (by
        rw [unhide HL, List.any_eq_false]
        intro q hq
        rw [unhide HA q (by have := List.mem_range.1 hq; omega)]
        simp)
      clear hb
      go_wp2_with fail
      go_ret
      refine ⟨⟨_, rfl, ?_⟩, unhide HB⟩
      rw [unhide HE]
      rfl
theorem cnL_any (hb gm gs m : Nat) (S L : Int) (u : Option Addr) (p po n c : Nat) (J : List Jb) (h : Hl) (g : Nat) (w : World) (hn : n ≤ 4096) (H : Hm w hb gm gs m S L u n c h) (hl : J.length = n) (hu : Jbs w u p po J) (hg : iblk w g 3 (marks 0 n)) :
    Calls Try.prog 60 #[.slice (some ⟨g, 0, none⟩) n n, .func (.func 62) #[.pointer (some ⟨hb, 0, none⟩)] #[]] w fun e w' => e = .returned (.bool (anyL J h)) ∧ Below w.heap.size w w' := by
  have HX := hide (ixL_any hb gm gs m S L u p po n c J h g w hn H hl hu hg)
  clear H hl hu hg
  go_enter Try.func60, Try.ntmps60
  go_wp2_with fail
  refine (unhide HX).mono ?_
  rintro e w' ⟨⟨r, rfl, hr⟩, hb⟩
  have HB := hide hb
  clear hb
  go_wp2_with fail
  go_ret
  exact ⟨by rw [← hr]; rfl, unhide HB⟩
end Go.Proofs.Ytbgekppggakdoaa
