/-
  What the model's ReadFrac answers at a text of two parts, or of more.
-/
import Derived.Test.YtidafleegkofkaiDoorModel
namespace Go.Proofs.YtidafleegkofkaiDoor
open Go.ChangeShapes Go.WideShapes Go.ChangeAt Go.RowKit
set_option linter.unusedVariables false
set_option linter.unusedSimpArgs false

theorem cutTo_len (s : ByteArray) : ∀ k, (cutTo s k).1.length ≤ k := by
  intro k
  induction k with
  | zero => exact Nat.le_refl _
  | succ k ih =>
    rw [show cutTo s (k + 1) = (if s.data.toList[k]? = some 47 then ((cutTo s k).1 ++ [s.extract (cutTo s k).2 k], k + 1) else cutTo s k) from rfl]
    split
    · rw [List.length_append]; show (cutTo s k).1.length + 1 ≤ k + 1; omega
    · omega
theorem cutAll_len (s : ByteArray) : (cutAll s).length ≤ s.size + 1 := by
  unfold cutAll
  rw [List.length_append]
  have := cutTo_len s s.size
  show (cutTo s s.size).1.length + 1 ≤ s.size + 1
  omega

set_option maxRecDepth 100000 in
set_option maxHeartbeats 1000000 in
theorem model_two (T P0 P1 : ByteArray) (w : World) (hT : T.size ≤ 65536)
    (HR : Hid (∀ n d : Int, frOk n d = true → txt n d = T → P0 = itoaS n ∧ P1 = itoaS d))
    (HC : Hid (∀ W, Calls Tryd.prog 15 #[.string T, .int .u8 47] W fun e w' => ∃ g cap, e = .returned (.slice (some ⟨g, 0, none⟩) 2 cap) ∧ w'.cell? ⟨g, 0, none⟩ = some (.string P0) ∧ w'.cell? ⟨g, 1, none⟩ = some (.string P1) ∧ g < w'.heap.size ∧ W.heap.size ≤ g ∧ 2 ≤ cap ∧ Below W.heap.size W w'))
    (HN : Hid (∀ W, Calls Tryd.prog 16 #[.string P0] W fun e w' => NumAll P0 e ∧ w' = W))
    (HM : Hid (∀ W, Calls Tryd.prog 16 #[.string P1] W fun e w' => NumAll P1 e ∧ w' = W)) :
    Calls Tryd.prog 8 #[.string T] w fun e w' => RdPost T e ∧ Below w.heap.size w w' := by
  go_enter Tryd.func8, Tryd.ntmps8
  go_wp2_with fail
  refine (unhide HC _).mono ?_
  rintro e w1 ⟨g, cap, rfl, c0, c1, hg1, hg2, hcap, hb⟩
  have x0 := keep1 hb (b := w.heap.size) (o := 0) (v := .int .i64 0) (by simp [go_sem])
  have x1 := keep1 hb (b := w.heap.size) (o := 1) (v := .int .i64 0) (by simp [go_sem])
  have f0 := keepz hb (b := w.heap.size) (o := 0) (by simp) (by simp [go_sem])
  have f1 := keepz hb (b := w.heap.size) (o := 1) (by simp) (by simp [go_sem])
  have B1 := hide (bel_call (bel_alloc (Below.refl w.heap.size w) _) hb)
  have l1 := cell_lt x0
  have hg3 : w.heap.size < g := by simp at hg2; omega
  clear hb hg2
  go_wp2_with fail
  refine (unhide HN _).mono ?_
  rintro e w2 ⟨⟨r, ok, rfl, hr, hex⟩, rfl⟩
  have HE : Hid (∀ n d : Int, frOk n d = true → txt n d = T → r = n ∧ ok = true) := hide fun n d h1 h2 => hex n (num_bd h1).1 (unhide HR n d h1 h2).1
  clear hex
  cases ok
  · have HF : Hid (∀ n d : Int, frOk n d = true → txt n d ≠ T) := hide fun n d h1 h2 => by
      have := (unhide HE n d h1 h2).2
      simp at this
    clear HE
    go_wp2
    refine bodyPost_ret (v := .tuple #[.agg #[.int .i64 0, .int .i64 0], .int .i64 4]) (by simp [results, Tryd.results8, go_sem, *]) rfl ⟨Or.inr ⟨unhide HF, rfl⟩, ?_⟩
    exact bel_alloc (bel_set (bel_set (unhide B1) (Nat.le_refl _)) (Nat.le_refl _)) _
  · go_wp2_with fail
    refine (unhide HM _).mono ?_
    rintro e w2 ⟨⟨q, ok, rfl, hq, hex⟩, rfl⟩
    have HG : Hid (∀ n d : Int, frOk n d = true → txt n d = T → (r = n ∧ q = d) ∧ ok = true) := hide fun n d h1 h2 => by
      obtain ⟨e1, e2⟩ := hex d (num_bd h1).2 (unhide HR n d h1 h2).2
      exact ⟨⟨(unhide HE n d h1 h2).1, e1⟩, e2⟩
    clear hex HE
    cases ok
    · have HF : Hid (∀ n d : Int, frOk n d = true → txt n d ≠ T) := hide fun n d h1 h2 => by
        have := (unhide HG n d h1 h2).2
        simp at this
      clear HG
      go_wp2
      refine bodyPost_ret (v := .tuple #[.agg #[.int .i64 0, .int .i64 0], .int .i64 4]) (by simp [results, Tryd.results8, go_sem, *]) rfl ⟨Or.inr ⟨unhide HF, rfl⟩, ?_⟩
      exact bel_alloc (bel_set (bel_set (unhide B1) (Nat.le_refl _)) (Nat.le_refl _)) _
    · have HF : Hid (∀ n d : Int, frOk n d = true → txt n d = T → r = n ∧ q = d) := hide fun n d h1 h2 => (unhide HG n d h1 h2).1
      obtain ⟨U, c, hX, hc1, hc2⟩ := text_some r q
      have HX := hide hX
      have H1 := hide hc1
      have H2 := hide hc2
      clear HG hX hc1 hc2
      go_wp2_with fail
      refine (unhide HX _).mono ?_
      rintro e w3 ⟨rfl, hb⟩
      have u0 := keep1 hb (b := w.heap.size) (o := 0) (v := .int .i64 0) (by simp [go_sem, *])
      have u1 := keep1 hb (b := w.heap.size) (o := 1) (v := .int .i64 0) (by simp [go_sem, *])
      have v0 := keep1 hb (b := w1.heap.size) (o := 0) (v := .int .i64 r) (by simp [go_sem])
      have v1 := keep1 hb (b := w1.heap.size) (o := 1) (v := .int .i64 q) (by simp [go_sem])
      have k0 := keepz hb (b := w.heap.size) (o := 0) (by simp; omega) (by simp [go_sem, *])
      have k1 := keepz hb (b := w.heap.size) (o := 1) (by simp; omega) (by simp [go_sem, *])
      have B3 := hide (bel_call (bel_alloc (unhide B1) _) hb)
      have l3 := cell_lt u0
      have l4 := cell_lt v0
      clear hb x0 x1 f0 f1 c0 c1 B1
      go_wp2
      all_goals first
        | (have h1 : c = 0 := by assumption
           have h2 : (!U.toList == T.toList) = false := by assumption
           obtain ⟨y1, y2⟩ := rd_yes (unhide H1) h1 (by simpa using h2)
           refine bodyPost_ret (v := .tuple #[.agg #[.int .i64 r, .int .i64 q], .int .i64 0]) (by simp [results, Tryd.results8, go_sem, u0, u1]) rfl ⟨Or.inl ⟨r, q, y1, y2, rfl⟩, ?_⟩
           exact bel_set (bel_set (unhide B3) (Nat.le_refl _)) (Nat.le_refl _))
        | (have h1 : c = 0 := by assumption
           have h2 : (!U.toList == T.toList) = true := by assumption
           have y := rd_no (unhide H2) (unhide HF) (Or.inr (by simpa using h2))
           refine bodyPost_ret (v := .tuple #[.agg #[.int .i64 0, .int .i64 0], .int .i64 4]) (by simp [results, Tryd.results8, go_sem, u0, u1]) rfl ⟨Or.inr ⟨y, rfl⟩, ?_⟩
           exact bel_set (bel_set (unhide B3) (Nat.le_refl _)) (Nat.le_refl _))
        | (have h1 : ¬ c = 0 := by assumption
           have y := rd_no (unhide H2) (unhide HF) (Or.inl h1)
           refine bodyPost_ret (v := .tuple #[.agg #[.int .i64 0, .int .i64 0], .int .i64 4]) (by simp [results, Tryd.results8, go_sem, u0, u1]) rfl ⟨Or.inr ⟨y, rfl⟩, ?_⟩
           exact bel_set (bel_set (unhide B3) (Nat.le_refl _)) (Nat.le_refl _))

set_option maxRecDepth 100000 in
set_option maxHeartbeats 1000000 in
theorem model_many (T P0 P1 : ByteArray) (N : Nat) (w : World) (hT : T.size ≤ 65536) (hN : 3 ≤ N) (hN2 : N ≤ 100000) (HF : Hid (∀ n d : Int, frOk n d = true → txt n d ≠ T))
    (HC : Hid (∀ W, Calls Tryd.prog 15 #[.string T, .int .u8 47] W fun e w' => ∃ g cap, e = .returned (.slice (some ⟨g, 0, none⟩) N cap) ∧ w'.cell? ⟨g, 0, none⟩ = some (.string P0) ∧ w'.cell? ⟨g, 1, none⟩ = some (.string P1) ∧ g < w'.heap.size ∧ W.heap.size ≤ g ∧ N ≤ cap ∧ Below W.heap.size W w'))
    (HN : Hid (∀ W, Calls Tryd.prog 16 #[.string P0] W fun e w' => NumAll P0 e ∧ w' = W))
    (HM : Hid (∀ W, Calls Tryd.prog 16 #[.string P1] W fun e w' => NumAll P1 e ∧ w' = W)) :
    Calls Tryd.prog 8 #[.string T] w fun e w' => RdPost T e ∧ Below w.heap.size w w' := by
  go_enter Tryd.func8, Tryd.ntmps8
  go_wp2_with fail
  refine (unhide HC _).mono ?_
  rintro e w1 ⟨g, cap, rfl, c0, c1, hg1, hg2, hcap, hb⟩
  have x0 := keep1 hb (b := w.heap.size) (o := 0) (v := .int .i64 0) (by simp [go_sem])
  have x1 := keep1 hb (b := w.heap.size) (o := 1) (v := .int .i64 0) (by simp [go_sem])
  have f0 := keepz hb (b := w.heap.size) (o := 0) (by simp) (by simp [go_sem])
  have f1 := keepz hb (b := w.heap.size) (o := 1) (by simp) (by simp [go_sem])
  have B1 := hide (bel_call (bel_alloc (Below.refl w.heap.size w) _) hb)
  have l1 := cell_lt x0
  have hg3 : w.heap.size < g := by simp at hg2; omega
  clear hb hg2
  go_wp2_with fail
  refine (unhide HN _).mono ?_
  rintro e w2 ⟨⟨r, ok, rfl, hr, hex⟩, rfl⟩
  clear hex
  cases ok
  · go_wp2
    refine bodyPost_ret (v := .tuple #[.agg #[.int .i64 0, .int .i64 0], .int .i64 4]) (by simp [results, Tryd.results8, go_sem, *]) rfl ⟨Or.inr ⟨unhide HF, rfl⟩, ?_⟩
    exact bel_alloc (bel_set (bel_set (unhide B1) (Nat.le_refl _)) (Nat.le_refl _)) _
  · go_wp2_with fail
    refine (unhide HM _).mono ?_
    rintro e w2 ⟨⟨q, ok, rfl, hq, hex⟩, rfl⟩
    clear hex
    cases ok
    · go_wp2
      refine bodyPost_ret (v := .tuple #[.agg #[.int .i64 0, .int .i64 0], .int .i64 4]) (by simp [results, Tryd.results8, go_sem, *]) rfl ⟨Or.inr ⟨unhide HF, rfl⟩, ?_⟩
      exact bel_alloc (bel_set (bel_set (unhide B1) (Nat.le_refl _)) (Nat.le_refl _)) _
    · go_wp2
      refine bodyPost_ret (v := .tuple #[.agg #[.int .i64 0, .int .i64 0], .int .i64 4]) (by simp [results, Tryd.results8, go_sem, *]) rfl ⟨Or.inr ⟨unhide HF, rfl⟩, ?_⟩
      exact bel_alloc (bel_set (bel_set (unhide B1) (Nat.le_refl _)) (Nat.le_refl _)) _


theorem model_any (T : ByteArray) (w : World) (hT : T.size ≤ 65536) : Calls Tryd.prog 8 #[.string T] w fun e w' => RdPost T e ∧ Below w.heap.size w w' := by
  have hne := cutAll_ne T
  have hsz := cutAll_sizes T 65536 hT
  have hl : ∀ (k : Nat) (x : ByteArray), (cutAll T)[k]? = some x → x.size ≤ 65536 := fun k x h => hsz x (List.mem_of_getElem? h)
  have hR := fun n d h1 h2 => cut_txt n d T h1 h2
  have hlen := cutAll_len T
  have hcut := fun N hN P0 h0 W => cut_read T W hT N hN P0 h0
  generalize hL : cutAll T = L at *
  match L, hL with
  | [], _ => simp at hne
  | [P0], hL =>
    refine model_one T P0 w hT (hide fun n d h1 h2 => ?_) (hide fun W => (hcut 1 rfl P0 rfl W).mono ?_) (hide fun W => num_any P0 W (hl 0 P0 rfl))
    · rcases hR n d h1 h2 with ⟨e1, e2⟩ | ⟨e1, e2⟩
      · exact ⟨e1, (List.cons.inj e2).1⟩
      · cases e2
    · rintro e w' ⟨g, cap, rfl, a1, a2, a3, a4, a5, a6⟩
      exact ⟨g, cap, rfl, a1, a4, a5, a6⟩
  | [P0, P1], hL =>
    refine model_two T P0 P1 w hT (hide fun n d h1 h2 => ?_) (hide fun W => (hcut 2 rfl P0 rfl W).mono ?_) (hide fun W => num_any P0 W (hl 0 P0 rfl)) (hide fun W => num_any P1 W (hl 1 P1 rfl))
    · rcases hR n d h1 h2 with ⟨e1, e2⟩ | ⟨e1, e2⟩
      · cases e2
      · exact ⟨(List.cons.inj e2).1, (List.cons.inj (List.cons.inj e2).2).1⟩
    · rintro e w' ⟨g, cap, rfl, a1, a2, a3, a4, a5, a6⟩
      exact ⟨g, cap, rfl, a1, a2 P1 rfl, a4, a5, a3, a6⟩
  | P0 :: P1 :: P2 :: R, hL =>
    refine model_many T P0 P1 (R.length + 3) w hT (by omega) (by simp at hlen; omega) (hide fun n d h1 h2 => ?_) (hide fun W => (hcut (R.length + 3) rfl P0 rfl W).mono ?_) (hide fun W => num_any P0 W (hl 0 P0 rfl)) (hide fun W => num_any P1 W (hl 1 P1 rfl))
    · rcases hR n d h1 h2 with ⟨e1, e2⟩ | ⟨e1, e2⟩
      · cases e2
      · cases e2
    · rintro e w' ⟨g, cap, rfl, a1, a2, a3, a4, a5, a6⟩
      exact ⟨g, cap, rfl, a1, a2 P1 rfl, a4, a5, a3, a6⟩
end Go.Proofs.YtidafleegkofkaiDoor
