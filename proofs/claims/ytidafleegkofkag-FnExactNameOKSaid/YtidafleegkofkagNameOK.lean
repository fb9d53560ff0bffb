/-
  NameOK of the program answers as the model at every text.
-/
import Derived.Test.YtidafleegkofkagWords
import Derived.ChangeOld
import Derived.Below
import Derived.ShutString
namespace Go.Proofs.Ytidafleegkofkag
open Go.ChangeShapes Go.WideShapes Go.ChangeAt Go.RowKit
open Go.ChangeMaps (open_string shut_string)
set_option linter.unusedVariables false

set_option maxHeartbeats 400000 in
theorem specName_any (s : ByteArray) (w : World) (hs : s.size ≤ maxLen) :
    Calls Try.prog 4 #[.string s] w fun e w' => e = .returned (.bool (nameB s)) ∧ w' = w := by
  have HW := hide (fun W => word_any s W hs)
  have hB : nameB s = decide (0 < s.size ∧ s.size ≤ 40 ∧ endOf s s.size 0 = s.size) := rfl
  rw [hB]
  clear hB
  generalize endOf s s.size 0 = E at *
  unfold maxLen at hs
  by_cases h0 : 0 < s.size
  · have p0 : decide ((0 : Int) < (s.size : Int)) = true := decide_eq_true (by omega)
    by_cases h1 : s.size ≤ 40
    · have p1 : decide ((s.size : Int) ≤ 40) = true := decide_eq_true (by omega)
      rw [show decide (0 < s.size ∧ s.size ≤ 40 ∧ E = s.size) = ((E : Int) == (s.size : Int)) from by rw [Bool.eq_iff_iff]; simp; omega]
      go_enter Try.func4, Try.ntmps4
      go_wp2_with fail
      refine (unhide HW _).mono ?_
      rintro e w1 ⟨rfl, rfl⟩
      go_wp2
      all_goals (go_ret; exact ⟨ret_bool (by first | rfl | simp_all), rfl⟩)
    · have p1 : decide ((s.size : Int) ≤ 40) = false := decide_eq_false (by omega)
      rw [show decide (0 < s.size ∧ s.size ≤ 40 ∧ E = s.size) = false from decide_eq_false (by omega)]
      go_enter Try.func4, Try.ntmps4
      go_wp2
      go_ret
      exact ⟨rfl, rfl⟩
  · have p0 : decide ((0 : Int) < (s.size : Int)) = false := decide_eq_false (by omega)
    rw [show decide (0 < s.size ∧ s.size ≤ 40 ∧ E = s.size) = false from decide_eq_false (by omega)]
    go_enter Try.func4, Try.ntmps4
    go_wp2
    go_ret
    exact ⟨rfl, rfl⟩

theorem width_pos (s : ByteArray) (pos : Nat) (h : pos < s.size) : 1 ≤ (Utf8.decode s pos).2 := by
  by_cases ha : (s[pos]'h).toNat < 128
  · rw [decode_ascii s pos h ha]
    exact Nat.le_refl _
  · exact (decode_high s pos h (by omega)).2

set_option maxRecDepth 100000 in
set_option maxHeartbeats 1000000 in
theorem implName_in (s : ByteArray) (w : World) (hs : s.size ≤ 40) (h0 : 0 < s.size) :
    Calls Try.prog 5 #[.string s] w fun e w' => e = .returned (.bool (endOf s s.size 0 == s.size)) ∧ Below w.heap.size w w' := by
  generalize hE : endOf s s.size 0 = E
  have HE : Hid (On s E 0) := by rw [← hE]; exact on_start s
  clear hE
  have p0 : ((s.size : Int) == 0) = false := by rw [beq_eq_false_iff_ne]; omega
  have p1 : decide ((40 : Int) < (s.size : Int)) = false := decide_eq_false (by omega)
  go_enter Try.func5, Try.ntmps5
  go_wp2
  go_loopw [] (fun w' => ∃ pos : Nat, w' = w.iter s pos ∧ pos ≤ s.size ∧ On s E pos) (fun w' => s.size - w'.iterPos w.heap.size)
  case atStart => exact ⟨0, rfl, by omega, unhide HE⟩
  case round =>
    obtain ⟨pos, rfl, hle, hon⟩ := hrel
    have HON := hide hon
    clear hon HE
    by_cases hp : pos < s.size
    · have hnx : ∀ ty, (Instr.next (.pointer (some ⟨w.heap.size, 0, none⟩)) true ty).run Try.prog (w.iter s pos) = _ := fun ty => run_next_any w s pos ty hp
      have hwd := width_pos s pos hp
      have hdl := decode_le s pos
      have HF := hide (fits_step s pos)
      have hsl := stepN_le s pos hp
      unfold Same at HF
      generalize (Utf8.decode s pos).1 = r at *
      generalize (Utf8.decode s pos).2 = wd at *
      by_cases hr : runeB r = true
      · have hst : stepN s pos = wd := (unhide HF).1 (by simp [fitsB, hr])
        have HN : Hid (On s E (pos + wd)) := by have := on_step (unhide HON) hp (by omega); rw [hst] at this; exact this
        rw [hst] at hsl
        have HL : Hid (∀ W, Calls Try.prog 7 #[.int .i32 (r : Int)] W fun e w' => e = .returned (.bool true) ∧ w' = W) := by rw [← hr]; exact fun W => letter_any r W hdl
        clear hst HON HF hr
        go_wp2_with fail
        refine (unhide HL _).mono ?_
        rintro e w1 ⟨rfl, rfl⟩
        go_wp2
        go_roundw
        case rel => exact ⟨pos + wd, rfl, hsl, unhide HN⟩
        case measure => simp; omega
      have hr : runeB r = false := by simpa using hr
      have HL : Hid (∀ W, Calls Try.prog 7 #[.int .i32 (r : Int)] W fun e w' => e = .returned (.bool false) ∧ w' = W) := by rw [← hr]; exact fun W => letter_any r W hdl
      by_cases hz : pos = 0
      · have hst : stepN s pos = 0 := (unhide HF).2 (by simp [fitsB, hr, hz])
        have HEK : Hid ((E == s.size) = false) := by
          rw [on_stop (unhide HON) hst]
          exact hide (by rw [beq_eq_false_iff_ne]; omega)
        have q0 : ((pos : Int) == 0) = true := by simp [hz]
        clear hst HON HF hr hsl hz
        go_wp2_with fail
        refine (unhide HL _).mono ?_
        rintro e w1 ⟨rfl, rfl⟩
        go_wp2
        go_ret
        exact ⟨ret_bool (by rw [unhide HEK]), (Below.refl _ _).alloc (Nat.le_refl _) _⟩
      have q0 : ((pos : Int) == 0) = false := by rw [beq_eq_false_iff_ne]; omega
      by_cases hdg : isDigit r = true
      · have hst : stepN s pos = wd := (unhide HF).1 (by simp [fitsB, hdg]; omega)
        have HN : Hid (On s E (pos + wd)) := by have := on_step (unhide HON) hp (by omega); rw [hst] at this; exact this
        rw [hst] at hsl
        have HD : Hid (∀ W, Calls Try.prog 8 #[.int .i32 (r : Int)] W fun e w' => e = .returned (.bool true) ∧ w' = W) := by rw [← hdg]; exact fun W => digit_any r W hdl
        clear hst HON HF hr hdg
        go_wp2_with fail
        refine (unhide HL _).mono ?_
        rintro e w1 ⟨rfl, rfl⟩
        go_wp2_with fail
        refine (unhide HD _).mono ?_
        rintro e w1 ⟨rfl, rfl⟩
        go_wp2
        go_roundw
        case rel => exact ⟨pos + wd, rfl, hsl, unhide HN⟩
        case measure => simp; omega
      · have hdg : isDigit r = false := by simpa using hdg
        have hst : stepN s pos = 0 := (unhide HF).2 (by simp [fitsB, hr, hdg])
        have HEK : Hid ((E == s.size) = false) := by
          rw [on_stop (unhide HON) hst]
          exact hide (by rw [beq_eq_false_iff_ne]; omega)
        have HD : Hid (∀ W, Calls Try.prog 8 #[.int .i32 (r : Int)] W fun e w' => e = .returned (.bool false) ∧ w' = W) := by rw [← hdg]; exact fun W => digit_any r W hdl
        clear hst HON HF hr hdg hsl
        go_wp2_with fail
        refine (unhide HL _).mono ?_
        rintro e w1 ⟨rfl, rfl⟩
        go_wp2_with fail
        refine (unhide HD _).mono ?_
        rintro e w1 ⟨rfl, rfl⟩
        go_wp2
        go_ret
        exact ⟨ret_bool (by rw [unhide HEK]), (Below.refl _ _).alloc (Nat.le_refl _) _⟩
    · have hnx : ∀ ty, (Instr.next (.pointer (some ⟨w.heap.size, 0, none⟩)) true ty).run Try.prog (w.iter s pos) = _ := fun ty => run_next_end w s pos ty hp
      have HEK : Hid ((E == s.size) = true) := by
        rw [on_end (unhide HON) hp]
        exact hide (by rw [beq_iff_eq]; omega)
      clear HON
      go_wp2
      go_ret
      exact ⟨ret_bool (by rw [unhide HEK]), (Below.refl _ _).alloc (Nat.le_refl _) _⟩

set_option maxHeartbeats 400000 in
theorem implName_out (s : ByteArray) (w : World) (hs : s.size ≤ maxLen) (h : s.size = 0 ∨ 40 < s.size) :
    Calls Try.prog 5 #[.string s] w fun e w' => e = .returned (.bool false) ∧ Below w.heap.size w w' := by
  unfold maxLen at hs
  rcases h with h | h
  · have p0 : ((s.size : Int) == 0) = true := by simp [h]
    clear h
    go_enter Try.func5, Try.ntmps5
    go_wp2
    go_ret
    exact ⟨rfl, Below.refl _ _⟩
  · have p0 : ((s.size : Int) == 0) = false := by rw [beq_eq_false_iff_ne]; omega
    have p1 : decide ((40 : Int) < (s.size : Int)) = true := decide_eq_true (by omega)
    go_enter Try.func5, Try.ntmps5
    go_wp2
    go_ret
    exact ⟨rfl, Below.refl _ _⟩

theorem implName_any (s : ByteArray) (w : World) (hs : s.size ≤ maxLen) :
    Calls Try.prog 5 #[.string s] w fun e w' => e = .returned (.bool (nameB s)) ∧ Below w.heap.size w w' := by
  by_cases h : 0 < s.size ∧ s.size ≤ 40
  · rw [show nameB s = (endOf s s.size 0 == s.size) from by unfold nameB; rw [Bool.eq_iff_iff]; simp; omega]
    exact implName_in s w h.2 h.1
  · rw [show nameB s = false from decide_eq_false (by omega)]
    exact implName_out s w hs (by omega)

set_option maxHeartbeats 400000 in
theorem fnExactNameOK_walk (s : ByteArray) (w : World) (hs : s.size ≤ maxLen) :
    Calls Try.prog 3 #[.string s] w fun e w' => e = .returned (.bool true) ∧ Below w.heap.size w w' := by
  have HS := hide (fun W => specName_any s W hs)
  have HI := hide (fun W => implName_any s W hs)
  generalize nameB s = ok at *
  have e1 : (ok != ok) = false := by cases ok <;> rfl
  have e2 : (ok == ok) = true := by cases ok <;> rfl
  unfold maxLen at hs
  by_cases hb : 1048576 < s.size
  · go_enter Try.func3, Try.ntmps3
    go_wp2
    go_ret
    exact ⟨rfl, Below.refl _ _⟩
  · go_enter Try.func3, Try.ntmps3
    go_wp2_with fail
    refine (unhide HS _).mono ?_
    rintro e w1 ⟨rfl, rfl⟩
    go_wp2_with fail
    refine (unhide HI _).mono ?_
    rintro e w2 ⟨rfl, hb2⟩
    have HB := hide hb2
    clear hb2
    go_wp2
    go_ret
    exact ⟨rfl, unhide HB⟩

theorem fnExactNameOK_own : ownKnob Try.prog.godebug = none := by kernel_rfl

set_option maxRecDepth 100000 in
theorem fnExactNameOK_lifted (os : Os) (started : os.Started) (H : Type) (enc : TypeId × Value → H) :
    ReturnsInHanded {} Try.checked os 3 .any (Rows.fnExactNameOKSpec.pre6 enc Try.prog Try.f3 Rows.fnExactNameOKRow.domain false) (Rows.fnExactNameOKSpec.post enc Try.prog Try.f3 false true false false) := by
  refine returnsInHanded_of_change (C := Try.checked) fnExactNameOK_own started (by kernel_rfl) Try.func3
    (ChangeSpec.witness6 (enc := enc) (C := Try.checked) false ⟨#[], #[.string ByteArray.empty], []⟩ 8 (by kernel_rfl) (by kernel_rfl) (by kernel_rfl) (by kernel_rfl)) ?_
  intro W base args ds gs before hval0 hW hcnd _
  have hval : ∀ (j : Nat) t v, Try.f3.params[j]? = some t → args[j]? = some v → Value.okWide Try.prog W .any base t v := hval0
  have hW' := hW
  obtain ⟨p, q, hA0, hV, rfl, hfz, hnd⟩ := hW
  have hA : DataW.TrodAll enc Try.prog W 0 (fun _ => true) true Try.f3.params.toList args.toList ds p := hA0
  rw [Try.params3] at hA hval
  obtain ⟨v0, vs0, d0, ds0, p0, q0, hargs, rfl, rfl, h0, r0⟩ := trodAll_cons hA
  obtain ⟨rfl, rfl, rfl⟩ := trodAll_nil r0
  obtain rfl : args = #[v0] := by cases args; simp_all
  obtain ⟨rfl, rfl⟩ := trodVars_none hV
  obtain ⟨s0, rfl, rfl, rfl, hs0⟩ := open_string Try.underlying9 (hval 0 9 v0 rfl rfl) h0
  clear hA0 hval0
  simp only [List.append_nil] at hW'
  refine (fnExactNameOK_walk s0 W hs0).mono fun e W' ⟨he, bel⟩ => ?_
  subst he
  exact ⟨_, rfl, _, _, _, [], [], [], hW', trodAll_mk1 (shut_bool Try.underlying4 _), (trodAll_cons_mk (shut_string Try.underlying9 hs0) trodAll_mk0), rfl, bel.frame _, fun h => by cases h⟩

theorem fnExactNameOK_over : Rows.fnExactNameOKRow.holds Try.pinned (OpenSpec.ofChange Rows.fnExactNameOKSpec) :=
  OpenClaim.holds_of_wide 3 Try.f3 rfl rfl rfl rfl rfl rfl rfl ⟨rfl, rfl, rfl, rfl, rfl⟩ rfl rfl rfl rfl rfl (by kernel_rfl) Try.func3 (by kernel_rfl)
    (of_decide_eq_true (by kernel_rfl)) (by unfold Func.isWrapper; first | (rw [if_pos (by decide +kernel)]; kernel_rfl) | (rw [if_neg (by decide +kernel)]; exact ⟨rfl, rfl⟩))
    (fun os started H enc _ => fnExactNameOK_lifted os started H enc)

/-- The statement, as it was given. -/
theorem fnExactNameOK_holds : Rows.FnExactNameOKSaid := fnExactNameOK_over
#print axioms fnExactNameOK_holds
end Go.Proofs.Ytidafleegkofkag
