/-
  What the model's ReadFrac answers at every text of at most 65536 bytes.
-/
import Derived.Test.YtidafleegkofkaiDoorCutsB
namespace Go.Proofs.YtidafleegkofkaiDoor
open Go.ChangeShapes Go.WideShapes Go.ChangeAt Go.RowKit
set_option linter.unusedVariables false
set_option linter.unusedSimpArgs false

/-- the answer: the right fraction whose text it is, or the code of a fault where there is none -/
def RdPost (T : ByteArray) (e : Ending) : Prop := (∃ n d : Int, frOk n d = true ∧ txt n d = T ∧ e = .returned (.tuple #[.agg #[.int .i64 n, .int .i64 d], .int .i64 0])) ∨ ((∀ n d : Int, frOk n d = true → txt n d ≠ T) ∧ e = .returned (.tuple #[.agg #[.int .i64 0, .int .i64 0], .int .i64 4]))

theorem text_some (n d : Int) : ∃ (U : ByteArray) (c : Int), (∀ W, Calls Tryd.prog 5 #[.agg #[.int .i64 n, .int .i64 d]] W fun e w' => e = .returned (.tuple #[.string U, .int .i64 c]) ∧ Below W.heap.size W w') ∧ (c = 0 → frOk n d = true ∧ U = txt n d) ∧ (frOk n d = true → c = 0 ∧ U = txt n d) := by
  have h := fun W => specText_any n d W
  unfold txAns at h
  by_cases hok : frOk n d = true
  · rw [if_pos hok] at h
    exact ⟨_, _, h, fun _ => ⟨hok, rfl⟩, fun _ => ⟨rfl, rfl⟩⟩
  · rw [if_neg hok] at h
    exact ⟨_, _, h, fun e => absurd e (by decide), fun e => absurd e hok⟩
theorem rd_no {T U : ByteArray} {r x c : Int} (hc : frOk r x = true → c = 0 ∧ U = txt r x) (he : ∀ n d, frOk n d = true → txt n d = T → r = n ∧ x = d) (h : c ≠ 0 ∨ (U.toList == T.toList) = false) : ∀ n d, frOk n d = true → txt n d ≠ T := by
  intro n d h1 h2
  obtain ⟨rfl, rfl⟩ := he n d h1 h2
  obtain ⟨h3, h4⟩ := hc h1
  rcases h with h | h
  · exact h h3
  · exact (Lib.bytes_beq_false_iff _ _).1 h (h4.trans h2)
theorem rd_yes {T U : ByteArray} {r x c : Int} (hc : c = 0 → frOk r x = true ∧ U = txt r x) (h0 : c = 0) (h : (U.toList == T.toList) = true) : frOk r x = true ∧ txt r x = T := by
  obtain ⟨h1, h2⟩ := hc h0
  exact ⟨h1, h2.symm.trans ((Lib.bytes_beq_iff _ _).1 h)⟩
theorem bel_set {B g o : Nat} {w W : World} {v : Value} (h : Below B w W) (hg : B ≤ g) : Below B w (W.setCell ⟨g, o, none⟩ v) := h.setCell hg v
theorem num_bd {n d : Int} (h : frOk n d = true) : (-1000000000 ≤ n ∧ n ≤ 1000000000) ∧ (-1000000000 ≤ d ∧ d ≤ 1000000000) := by
  obtain ⟨c1, c3, c4⟩ := ok_bd h
  exact ⟨c1, by omega, c4⟩

set_option maxRecDepth 100000 in
set_option maxHeartbeats 1000000 in
theorem model_one (T P0 : ByteArray) (w : World) (hT : T.size ≤ 65536)
    (HR : Hid (∀ n d : Int, frOk n d = true → txt n d = T → d = 1 ∧ P0 = itoaS n))
    (HC : Hid (∀ W, Calls Tryd.prog 15 #[.string T, .int .u8 47] W fun e w' => ∃ g cap, e = .returned (.slice (some ⟨g, 0, none⟩) 1 cap) ∧ w'.cell? ⟨g, 0, none⟩ = some (.string P0) ∧ g < w'.heap.size ∧ W.heap.size ≤ g ∧ Below W.heap.size W w'))
    (HN : Hid (∀ W, Calls Tryd.prog 16 #[.string P0] W fun e w' => NumAll P0 e ∧ w' = W)) :
    Calls Tryd.prog 8 #[.string T] w fun e w' => RdPost T e ∧ Below w.heap.size w w' := by
  go_enter Tryd.func8, Tryd.ntmps8
  go_wp2_with fail
  refine (unhide HC _).mono ?_
  rintro e w1 ⟨g, cap, rfl, c0, hg1, hg2, hb⟩
  have x0 := keep1 hb (b := w.heap.size) (o := 0) (v := .int .i64 0) (by simp [go_sem])
  have x1 := keep1 hb (b := w.heap.size) (o := 1) (v := .int .i64 0) (by simp [go_sem])
  have f0 := keepz hb (b := w.heap.size) (o := 0) (by simp) (by simp [go_sem])
  have f1 := keepz hb (b := w.heap.size) (o := 1) (by simp) (by simp [go_sem])
  have B1 := hide (bel_call (bel_alloc (Below.refl w.heap.size w) _) hb)
  have l1 := cell_lt x0
  have hg3 : w.heap.size < g := by simp at hg2; omega
  clear hb hg2
  go_wp2_with fail
  refine (unhide HN _).mono ?_
  rintro e w2 ⟨⟨r, ok, rfl, hr, hex⟩, rfl⟩
  have HE : Hid (∀ n d : Int, frOk n d = true → txt n d = T → (r = n ∧ 1 = d) ∧ ok = true) := hide fun n d h1 h2 => by
    obtain ⟨e1, e2⟩ := unhide HR n d h1 h2
    obtain ⟨e3, e4⟩ := hex n (num_bd h1).1 e2
    exact ⟨⟨e3, e1.symm⟩, e4⟩
  clear hex
  cases ok
  · have HF : Hid (∀ n d : Int, frOk n d = true → txt n d ≠ T) := hide fun n d h1 h2 => by
      have := (unhide HE n d h1 h2).2
      simp at this
    clear HE
    go_wp2
    refine bodyPost_ret (v := .tuple #[.agg #[.int .i64 0, .int .i64 0], .int .i64 4]) (by simp [results, Tryd.results8, go_sem, *]) rfl ⟨Or.inr ⟨unhide HF, rfl⟩, ?_⟩
    exact bel_alloc (bel_set (bel_set (unhide B1) (Nat.le_refl _)) (Nat.le_refl _)) _
  · have HF : Hid (∀ n d : Int, frOk n d = true → txt n d = T → r = n ∧ 1 = d) := hide fun n d h1 h2 => (unhide HE n d h1 h2).1
    obtain ⟨U, c, hX, hc1, hc2⟩ := text_some r 1
    have HX := hide hX
    have H1 := hide hc1
    have H2 := hide hc2
    clear HE hX hc1 hc2
    go_wp2_with fail
    refine (unhide HX _).mono ?_
    rintro e w3 ⟨rfl, hb⟩
    have u0 := keep1 hb (b := w.heap.size) (o := 0) (v := .int .i64 0) (by simp [go_sem, *])
    have u1 := keep1 hb (b := w.heap.size) (o := 1) (v := .int .i64 0) (by simp [go_sem, *])
    have v0 := keep1 hb (b := w1.heap.size) (o := 0) (v := .int .i64 r) (by simp [go_sem])
    have v1 := keep1 hb (b := w1.heap.size) (o := 1) (v := .int .i64 1) (by simp [go_sem])
    have k0 := keepz hb (b := w.heap.size) (o := 0) (by simp; omega) (by simp [go_sem, *])
    have k1 := keepz hb (b := w.heap.size) (o := 1) (by simp; omega) (by simp [go_sem, *])
    have B3 := hide (bel_call (bel_alloc (unhide B1) _) hb)
    have l3 := cell_lt u0
    have l4 := cell_lt v0
    clear hb x0 x1 f0 f1 c0 B1
    go_wp2
    all_goals first
      | (have h1 : c = 0 := by assumption
         have h2 : (!U.toList == T.toList) = false := by assumption
         obtain ⟨y1, y2⟩ := rd_yes (unhide H1) h1 (by simpa using h2)
         refine bodyPost_ret (v := .tuple #[.agg #[.int .i64 r, .int .i64 1], .int .i64 0]) (by simp [results, Tryd.results8, go_sem, u0, u1]) rfl ⟨Or.inl ⟨r, 1, y1, y2, rfl⟩, ?_⟩
         exact bel_set (bel_set (unhide B3) (Nat.le_refl _)) (Nat.le_refl _))
      | (have h1 : c = 0 := by assumption
         have h2 : (!U.toList == T.toList) = true := by assumption
         have y := rd_no (unhide H2) (unhide HF) (Or.inr (by simpa using h2))
         refine bodyPost_ret (v := .tuple #[.agg #[.int .i64 0, .int .i64 0], .int .i64 4]) (by simp [results, Tryd.results8, go_sem, u0, u1]) rfl ⟨Or.inr ⟨y, rfl⟩, ?_⟩
         exact bel_set (bel_set (unhide B3) (Nat.le_refl _)) (Nat.le_refl _))
      | (have h1 : ¬ c = 0 := by assumption
         have y := rd_no (unhide H2) (unhide HF) (Or.inl h1)
         refine bodyPost_ret (v := .tuple #[.agg #[.int .i64 0, .int .i64 0], .int .i64 4]) (by simp [results, Tryd.results8, go_sem, u0, u1]) rfl ⟨Or.inr ⟨y, rfl⟩, ?_⟩
         exact bel_set (bel_set (unhide B3) (Nat.le_refl _)) (Nat.le_refl _))
end Go.Proofs.YtidafleegkofkaiDoor
