/-
  The model's NestBest.
-/
import Derived.Test.YtoidhlackoigkaaNbOd
namespace Go.Proofs.Ytoidhlackoigkaa
open Go.ChangeShapes Go.WideShapes Go.ChangeAt Go.RowKit
set_option linter.unusedVariables false
set_option linter.unusedSimpArgs false

theorem nbA_uniq {Wd : Int} {P : List Pl} {L L' : List Ld} (h : NbA Wd P L) (h' : NbA Wd P L') : L = L' := by
  unfold NbA at h h'
  split at h
  · rename_i hc
    rw [if_pos hc] at h'
    exact Option.some.inj (h.1.symm.trans h'.1)
  · rename_i hc
    rw [if_neg hc] at h'
    rw [h, h']
theorem nbA_bd {Wd : Int} {P : List Pl} {L : List Ld} (h : NbA Wd P L) : L.length ≤ 5 := by
  unfold NbA at h
  split at h
  · exact h.2
  · subst h; simp
theorem lv_len {Wd : Int} {P : List Pl} (r : List Nat) (pre Q : List Itm) (h : Q ∈ lv Wd P r pre) : Q.length = pre.length + r.length := by
  induction r generalizing pre with
  | nil => simp [lv] at h; simp [h]
  | cons k r ih =>
    cases hp : P[k]? with
    | none => simp [lv, hp] at h
    | some p =>
      rw [lv_cons hp] at h
      rcases List.mem_append.1 h with h1 | h1
      · split at h1
        · have := ih _ h1; simp at this ⊢; omega
        · cases h1
      · split at h1
        · have := ih _ h1; simp at this ⊢; omega
        · cases h1
theorem ol_len {Wd : Int} {P : List Pl} (m : Nat) (od : List Nat) (Q : List Itm) (h : Q ∈ ol Wd P m od) : Q.length = od.length + m ∧ ∀ q ∈ Q, q.w ≤ Wd := by
  induction m generalizing od with
  | zero =>
    have h1 := lv_len _ _ _ h
    obtain ⟨rest, e, hr⟩ := lv_mem _ _ _ h
    refine ⟨by simpa using h1, fun q hq => hr q (by rw [e] at hq; simpa using hq)⟩
  | succ m ih =>
    simp only [ol] at h
    obtain ⟨i, _, h1⟩ := List.mem_flatMap.1 h
    split at h1
    · cases h1
    · have := ih _ h1
      simp at this ⊢
      exact ⟨by omega, this.2⟩
/-- the best is the nest of one of them -/
theorem bst_in {Wd : Int} (Qs : List (List Itm)) (b : Option (List Ld)) {L : List Ld} (h : bst Wd b Qs = some L) : b = some L ∨ ∃ Q ∈ Qs, L = nestOf Wd Q := by
  induction Qs generalizing b with
  | nil => exact Or.inl h
  | cons Q Qs ih =>
    have h1 := ih (upd Wd b Q) h
    rcases h1 with h1 | ⟨Q', hQ', e⟩
    · unfold upd at h1
      split at h1
      · exact Or.inr ⟨Q, by simp, (Option.some.inj h1).symm⟩
      · split at h1
        · exact Or.inr ⟨Q, by simp, (Option.some.inj h1).symm⟩
        · exact Or.inl h1
    · exact Or.inr ⟨Q', by simp [hQ'], e⟩
theorem best_len {Wd : Int} {P : List Pl} {L : List Ld} (h : bst Wd none (ol Wd P P.length []) = some L) : L.length = P.length := by
  rcases bst_in _ _ h with h1 | ⟨Q, hQ, rfl⟩
  · cases h1
  · have h2 := ol_len _ _ _ hQ
    obtain ⟨_, h3⟩ := nestOf_spec h2.2
    rw [h3.1]
    simpa using h2.1
theorem nbM_bad (Wd : Int) (u : Option Addr) (p po n c : Nat) (P : List Pl) (w : World) (hl : P.length = n) (hn : n ≤ 9223372036854775807) (hu : Pls w u p po P) (hc : nsCode Wd P ≠ 0) :
    Calls Try.prog 10 #[.int .i64 Wd, .slice u n c] w fun e w' => (∃ v, e = .returned (.tuple #[v, .int .i64 0, .int .i64 (nsCode Wd P)]) ∧ w'.ownsRow w.heap.size 61 4 v 0 []) ∧ Below w.heap.size w w' := by
  have HC := hide (ncM_any Wd u p po n c P w hl hn hu)
  generalize nsCode Wd P = k at *
  have kz : (k != 0) = true := by simp [hc]
  clear hl hu
  go_enter Try.func10, Try.ntmps10
  go_wp2_with fail
  refine (unhide HC).mono ?_
  rintro e w1 ⟨rfl, hb⟩
  have HB := hide hb
  clear hb
  go_wp2_with fail
  refine bodyPost_ret (by simp [results, Try.results10, go_sem]; rfl) rfl ?_
  exact ⟨⟨_, rfl, own_made w1 61 w.heap.size 4 (unhide HB).size _ rfl⟩, ba (unhide HB) _⟩
theorem nbM_many (Wd : Int) (u : Option Addr) (p po n c : Nat) (P : List Pl) (w : World) (hl : P.length = n) (hn : n ≤ 9223372036854775807) (hu : Pls w u p po P) (hc : nsCode Wd P = 0) (h5 : 5 < n) :
    Calls Try.prog 10 #[.int .i64 Wd, .slice u n c] w fun e w' => (∃ v, e = .returned (.tuple #[v, .int .i64 0, .int .i64 10]) ∧ w'.ownsRow w.heap.size 61 4 v 0 []) ∧ Below w.heap.size w w' := by
  have HC := hide (ncM_any Wd u p po n c P w hl hn hu)
  rw [hc] at HC
  have t5 : decide ((5 : Int) < (n : Int)) = true := decide_eq_true (by omega)
  clear hl hu hc
  go_enter Try.func10, Try.ntmps10
  go_wp2_with fail
  refine (unhide HC).mono ?_
  rintro e w1 ⟨rfl, hb⟩
  have HB := hide hb
  clear hb
  go_wp2_with fail
  refine bodyPost_ret (by simp [results, Try.results10, go_sem]; rfl) rfl ?_
  exact ⟨⟨_, rfl, own_made w1 61 w.heap.size 4 (unhide HB).size _ rfl⟩, ba (unhide HB) _⟩
theorem made_b (n : Nat) : madeCells (Value.bool false).cells (n * 1) = ((List.replicate n false).map Value.bool).toArray := by
  apply Array.ext
  · simp [madeCells]
  · intro i h1 h2
    have e : i % 1 = 0 := Nat.mod_one i
    simp [madeCells, Value.cells, e]
theorem make_bl (n : Nat) (hn : n ≤ 1000000) (W : World) : (Instr.makeSlice 52 (.int .i64 (n : Int)) (.int .i64 (n : Int))).run Try.prog W = .ok (.slice (some ⟨W.heap.size, 0, none⟩) n n) (W.alloc (.cells ((List.replicate n false).map Value.bool).toArray 4)) := by
  obtain ⟨i, h1, h2, h3, h4⟩ := info_parts bool_info
  have := run_make (P := Try.prog) W 52 4 i _ Try.underlying52 h1 h2 .i64 .i64 n n (by omega) (by omega) (by rw [h4]; omega) (by omega)
  rw [Int.toNat_natCast, h3, made_b] at this
  exact this
set_option maxHeartbeats 4000000 in
theorem nbM_good (Wd : Int) (u : Option Addr) (p po n c : Nat) (P : List Pl) (w : World) (hl : P.length = n) (hu : Pls w u p po P) (hc : nsCode Wd P = 0) (h5 : n ≤ 5) :
    Calls Try.prog 10 #[.int .i64 Wd, .slice u n c] w fun e w' => (∃ v L, e = .returned (.tuple #[v, .int .i64 (hgtOf L), .int .i64 0]) ∧ w'.ownsRow w.heap.size 61 4 v L.length (flatG spC L) ∧ bst Wd none (ol Wd P n []) = some L) ∧ Below w.heap.size w w' := by
  obtain ⟨hW, hlen, hpl, hfit⟩ := code_good hc
  have HC := hide (ncM_any Wd u p po n c P w hl (by omega) hu)
  rw [hc] at HC
  have t5 : decide ((5 : Int) < (n : Int)) = false := decide_eq_false (by omega)
  have HNE := hide (bst_ne (Wd := Wd) (ol_ne hfit n 0 (by omega)))
  have HOA := hide (fun sB tB X => orders_any w Wd P u p po c sB tB n (by omega) hu hW hl hpl n 0 [] none X (by omega) (fun k hk => by cases hk))
  have HL := hide hl
  have hmk := fun X => make_bl n (by omega) X
  generalize hzz : (List.replicate n false).map Value.bool = Z at hmk
  have HZ := hide hzz
  clear hl hu hc hpl hfit hlen hzz
  go_enter Try.func10, Try.ntmps10
  go_wp2_with fail
  refine (unhide HC).mono ?_
  rintro e w1 ⟨rfl, hb1⟩
  have HB1 := hide hb1
  have HQ0 : Hid (OdQ w ((w1.alloc (.cells Z.toArray 4)).alloc (.cells #[.int .i64 Wd, .slice u n c, .slice none 0 0, .slice (some ⟨w1.heap.size, 0, none⟩) n n, .slice none 0 0, .int .i64 (-1)] 58)) Wd P u n 0 c (w1.heap.size + 1) w1.heap.size [] none) := hide
    ⟨List.replicate n false, .slice none 0 0, .slice none 0 0, -1, ba (ba hb1 _) _, vb_new _ 58 [.int .i64 Wd, .slice u n c, .slice none 0 0, .slice (some ⟨w1.heap.size, 0, none⟩) n n, .slice none 0 0, .int .i64 (-1)] _ (by simp), by have := hb1.size; omega, unhide HL, rfl, ⟨rfl, .inl ⟨rfl, rfl⟩⟩, by rw [unhide HZ]; exact (vb_new w1 4 Z _ rfl).bel (ba (Below.refl _ _) _), by simp, hb1.size, by omega, (by intro e; cases e), (by intro e; cases e), ⟨rfl, rfl⟩, (by intro e; cases e), (by intro e; cases e), (by intro q hq; cases hq)⟩
  clear hb1
  go_wp2_with fail
  refine (unhide HOA _ _ _ (unhide HQ0)).mono ?_
  rintro e W2 ⟨rfl, T, vo, ve, hi, hst⟩
  obtain ⟨L, hL⟩ := unhide HNE
  have hL' : bst Wd none (ol Wd P n []) = some L := hL
  rw [hL'] at hst
  have HLL := hide hL'
  obtain ⟨rfl, h0, hrow⟩ := hst.be
  have HROW := hide hrow
  have HBE := hide hst.bel
  have c4 := hst.s.cell (m := 4) rfl
  have c5 := hst.s.cell (m := 5) rfl
  clear hst hrow hL hL' HNE HQ0 HOA
  go_wp2_with fail
  refine Go.Code.wp_mono (Only.to (fun _ _ h => h)) (nb8 (hide c4) (hide c5) ?_)
  intro W3 hb3
  have HROW3 := hide (own_bel (unhide HROW) hb3)
  have HB3 := hide ((unhide HBE).trans (hb3.mono (unhide HBE).size))
  clear hb3 c4 c5
  go_wp2_with fail
  refine bodyPost_ret (v := .tuple #[ve, .int .i64 (hgtOf L), .int .i64 0]) (by simp [results, Try.results10, go_sem]) rfl ?_
  exact ⟨⟨ve, L, rfl, unhide HROW3, unhide HLL⟩, unhide HB3⟩
end Go.Proofs.Ytoidhlackoigkaa
