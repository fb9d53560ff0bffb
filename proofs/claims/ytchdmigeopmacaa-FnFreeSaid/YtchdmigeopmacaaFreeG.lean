/-
  What both sides' SketchFree answer, told in one way.
-/
import Derived.Test.YtchdmigeopmacaaFreeY
import Derived.Test.YtchdmigeopmacaaLawKit
namespace Go.Proofs.Ytchdmigeopmacaa
open Go.ChangeShapes Go.WideShapes Go.ChangeAt Go.RowKit
set_option linter.unusedVariables false
set_option linter.unusedSimpArgs false

set_option maxRecDepth 100000 in
theorem freeM_bad (n : Int) (u : Option Addr) (l c : Nat) (w : World)
    (HOKM : Hid (∀ W, Below w.heap.size w W → Calls Try.prog 20 #[skv n u l c] W fun e w' => e = .returned (.bool false) ∧ Below W.heap.size W w')) :
    Calls Try.prog 14 #[skv n u l c] w fun e w' => ∃ g, e = .returned (.tuple #[.int .i64 0, .slice (some ⟨g, 0, none⟩) 0 0, .int .i64 1]) ∧ Below w.heap.size w w' := by
  go_enter Try.func14, Try.ntmps14
  go_wp2_with fail
  refine (unhide HOKM _ (ba (Below.refl _ _) _)).mono ?_
  rintro e W1 ⟨rfl, hb1⟩
  have HB1 := hide (bc (ba (Below.refl _ _) _) hb1)
  clear hb1
  go_wp2_with fail
  exact bodyPost_ret (v := .tuple #[.int .i64 0, .slice (some ⟨W1.heap.size, 0, none⟩) 0 0, .int .i64 1]) (by simp [results, Try.results14, go_sem]) rfl ⟨_, rfl, ba (unhide HB1) _⟩
set_option maxHeartbeats 2000000 in
set_option maxRecDepth 100000 in
theorem freeM_core (N : Nat) (u : Option Addr) (l c : Nat) (w : World)
    (HOKM : Hid (∀ W, Below w.heap.size w W → Calls Try.prog 20 #[skv (N : Int) u l c] W fun e w' => e = .returned (.bool true) ∧ Below W.heap.size W w'))
    (HALL : Hid (∀ W, Below w.heap.size w W → Calls Try.prog 26 #[skv (N : Int) u l c] W fun e w' => ∃ v, e = .returned v ∧ Row w' (W.heap.size + 1) 3 1 v l (nats (List.range l)) ∧ Below W.heap.size W w'))
    (HKEEP : Hid (∀ W, Below w.heap.size w W → ∀ v, Row W 0 3 1 v l (nats (List.range l)) → Calls Try.prog 27 #[skv (N : Int) u l c, v] W fun e w' => (∃ v, e = .returned (.tuple #[v, .bool false])) ∧ Below W.heap.size W w')) :
    Calls Try.prog 14 #[skv (N : Int) u l c] w fun e w' => ∃ g, e = .returned (.tuple #[.int .i64 0, .slice (some ⟨g, 0, none⟩) 0 0, .int .i64 15]) ∧ Below w.heap.size w w' := by
  go_enter Try.func14, Try.ntmps14
  go_wp2_with fail
  refine (unhide HOKM _ (ba (Below.refl _ _) _)).mono ?_
  rintro e W1 ⟨rfl, hb1⟩
  have a0 : W1.cell? ⟨w.heap.size, 0, none⟩ = some (.int .i64 (N : Int)) := keep1 hb1 (by simp [go_sem])
  have a1 : W1.cell? ⟨w.heap.size, 1, none⟩ = some (.slice u l c) := keep1 hb1 (by simp [go_sem])
  have HB1 := hide (bc (ba (Below.refl _ _) _) hb1)
  clear hb1
  go_wp2_with fail
  go_region_held3 (fun wx => wx.cell? ⟨w.heap.size, 0, none⟩ = some (.int .i64 (N : Int)) ∧ wx.cell? ⟨w.heap.size, 1, none⟩ = some (.slice u l c))
    (simp (maxDischargeDepth := 12) [go_sem, le1, lt1, *])
    (first
    | (go_at_call 26; refine (unhide HALL _ (by repeat (first | exact unhide HB1 | refine Below.drew ?_))).mono ?_; rintro e Wa ⟨va, rfl, hra, hb⟩; have HBa := hide hb; have HRa := hide (hra.mono (Nat.zero_le _)); have x0 := keep1 hb (b := w.heap.size) (o := 0) (v := .int .i64 (N : Int)) a0; have x1 := keep1 hb (b := w.heap.size) (o := 1) (v := .slice u l c) a1; clear hb hra)
    | (go_at_call 27; refine (unhide HKEEP _ (by repeat (first | exact unhide HB1 | refine bc ?_ (unhide HBa) | refine Below.drew ?_)) va (by exact unhide HRa)).mono ?_; rintro e W2 ⟨⟨vk, rfl⟩, hb⟩; have HBk := hide hb; have y0 := keep1 hb (b := w.heap.size) (o := 0) (v := .int .i64 (N : Int)) x0; have y1 := keep1 hb (b := w.heap.size) (o := 1) (v := .slice u l c) x1; clear hb))
  all_goals
    have HB2 : Hid (Below w.heap.size w W2) := hide (by repeat (first | exact unhide HB1 | refine bc ?_ (unhide HBk) | refine bc ?_ (unhide HBa) | refine Below.drew ?_))
    clear x0 x1 HBa HBk HRa a0 a1
    go_wp2_with fail
    exact bodyPost_ret (v := .tuple #[.int .i64 0, .slice (some ⟨W2.heap.size, 0, none⟩) 0 0, .int .i64 15]) (by simp [results, Try.results14, go_sem]) rfl ⟨_, rfl, ba (unhide HB2) _⟩

def outF (n : Int) (rs : List Ru) : Int := if skOk n rs = true then if keptP n.toNat rs = true then (frTo n.toNat rs rs.length).1.2 else 0 else 0
def outS (n : Int) (rs : List Ru) : List Nat := if skOk n rs = true then if keptP n.toNat rs = true then (frTo n.toNat rs rs.length).2 else [] else []
theorem frTo_len (N : Nat) (rs : List Ru) : ∀ j, (frTo N rs j).2.length ≤ j := by
  intro j
  induction j with
  | zero => exact Nat.le_refl _
  | succ j ih =>
    rw [frTo]
    show (if _ then (frTo N rs j).2 else (frTo N rs j).2 ++ [j]).length ≤ j + 1
    split
    · omega
    · rw [List.length_append]; simp; omega
theorem outS_le (n : Int) (rs : List Ru) : (outS n rs).length ≤ 60 := by
  unfold outS
  split
  · rename_i h
    have := ok_parts h
    split
    · have := frTo_len n.toNat rs rs.length
      omega
    · simp
  · simp
theorem freeM_any (n : Int) (u : Option Addr) (p po l c : Nat) (rs : List Ru) (w : World) (HL : rs.length = l) (hm : l ≤ 9223372036854775807)
    (HX : l ≠ 0 → u = some ⟨p, po, none⟩ ∧ p < w.heap.size ∧ RusAt w p po rs) :
    Calls Try.prog 14 #[skv n u l c] w fun e w' => ∃ v, e = .returned (.tuple #[.int .i64 (outF n rs), v, .int .i64 (outC n rs)]) ∧ Sl w' v (outS n rs).length (nats (outS n rs)) ∧ Below w.heap.size w w' := by
  have hX : ∀ W, Below w.heap.size w W → l ≠ 0 → u = some ⟨p, po, none⟩ ∧ p < W.heap.size ∧ RusAt W p po rs := fun W hW h => ⟨(HX h).1, Nat.lt_of_lt_of_le (HX h).2.1 hW.size, (HX h).2.2.bel hW (HX h).2.1⟩
  have hok : ∀ W, Below w.heap.size w W → Calls Try.prog 20 #[skv n u l c] W fun e w' => e = .returned (.bool (skOk n rs)) ∧ Below W.heap.size W w' := fun W hW => okM_any n u p po l c rs W (hide HL) hm (hide (hX W hW))
  unfold outF outS outC
  cases hsk : skOk n rs with
  | false =>
    rw [hsk] at hok
    refine (freeM_bad n u l c w (hide hok)).mono ?_
    rintro e w' ⟨g, rfl, hb⟩
    exact ⟨_, rfl, sl_empty _ _ _, hb⟩
  | true =>
    rw [hsk] at hok
    obtain ⟨n1, n2, l1, hr⟩ := ok_parts hsk
    obtain ⟨N, rfl⟩ : ∃ N : Nat, n = (N : Int) := ⟨n.toNat, by omega⟩
    rw [Int.toNat_natCast]
    have hks : ∀ j ∈ List.range l, j < rs.length := fun j hj => by rw [HL]; simpa using hj
    have hpk : pick rs (List.range l) = rs := by rw [← HL]; exact pick_all rs
    have hall : ∀ W, Below w.heap.size w W → Calls Try.prog 26 #[skv (N : Int) u l c] W fun e w' => ∃ v, e = .returned v ∧ Row w' (W.heap.size + 1) 3 1 v l (nats (List.range l)) ∧ Below W.heap.size W w' := fun W _ => all_any (N : Int) u l c W (by omega)
    have hkeep : ∀ W, Below w.heap.size w W → ∀ v, Row W 0 3 1 v l (nats (List.range l)) → Calls Try.prog 27 #[skv (N : Int) u l c, v] W fun e w' => (∃ v, e = .returned (.tuple #[v, .bool (keptP N rs)])) ∧ Below W.heap.size W w' := by
      intro W hW v hv
      obtain ⟨uk, q, ck, rfl, hq⟩ := hv.sl.at
      have := keepM_any N u uk p po l c q 0 l ck rs (List.range l) W (by omega) (by omega) HL (by omega) (by simp) (by omega) (hX W hW) hq hks hr
      rw [hpk] at this
      refine this.mono ?_
      rintro e w' ⟨v2, rfl, _, hb⟩
      exact ⟨⟨v2, rfl⟩, hb⟩
    simp only [if_true]
    cases hk : keptP N rs with
    | true =>
      rw [hk] at hkeep
      subst HL
      exact freeM_kept N u p po rs.length c rs (frTo N rs rs.length) w (by omega) (by omega) (hide rfl) (by omega) (hide HX) (hide hr) (hide rfl) (hide hok) (hide hall) (hide hkeep)
    | false =>
      rw [hk] at hkeep
      refine (freeM_core N u l c w (hide hok) (hide hall) (hide hkeep)).mono ?_
      rintro e w' ⟨g, rfl, hb⟩
      exact ⟨_, rfl, sl_empty _ _ _, hb⟩
theorem freeP_any (n : Int) (u : Option Addr) (p po l c : Nat) (rs : List Ru) (w : World) (HL : rs.length = l) (hm : l ≤ 9223372036854775807)
    (HX : l ≠ 0 → u = some ⟨p, po, none⟩ ∧ p < w.heap.size ∧ RusAt w p po rs) :
    Calls Try.prog 13 #[skv n u l c] w fun e w' => ∃ v, e = .returned (.tuple #[.int .i64 (outF n rs), v, .int .i64 (outC n rs)]) ∧ Row w' w.heap.size 3 1 v (outS n rs).length (nats (outS n rs)) ∧ Below w.heap.size w w' := by
  have hX : ∀ W, Below w.heap.size w W → l ≠ 0 → u = some ⟨p, po, none⟩ ∧ p < W.heap.size ∧ RusAt W p po rs := fun W hW h => ⟨(HX h).1, Nat.lt_of_lt_of_le (HX h).2.1 hW.size, (HX h).2.2.bel hW (HX h).2.1⟩
  have hok : ∀ W, Below w.heap.size w W → Calls Try.prog 21 #[skv n u l c] W fun e w' => e = .returned (.bool (skOk n rs)) ∧ Below W.heap.size W w' := fun W hW => okP_any n u p po l c rs W (hide HL) hm (hide (hX W hW))
  unfold outF outS outC
  cases hsk : skOk n rs with
  | false =>
    rw [hsk] at hok
    refine (freeP_bad n u l c w (hide hok)).mono ?_
    rintro e w' ⟨rfl, hb⟩
    exact ⟨_, rfl, World.ownsRow_nil _ _ _ _, hb⟩
  | true =>
    rw [hsk] at hok
    obtain ⟨n1, n2, l1, hr⟩ := ok_parts hsk
    obtain ⟨N, rfl⟩ : ∃ N : Nat, n = (N : Int) := ⟨n.toNat, by omega⟩
    rw [Int.toNat_natCast]
    simp only [if_true]
    have hlow : ∀ W, Below w.heap.size w W → Calls Try.prog 22 #[.int .i64 (N : Int), .slice u l c] W fun e w' => (∃ v, e = .returned (.tuple #[v, .bool (keptP N rs)])) ∧ Below W.heap.size W w' :=
      fun W hW => (lowP_any N u p po l c rs W (by omega) HL (by omega) (hX W hW) hr).mono fun e w' ⟨v, h1, _, h3⟩ => ⟨⟨v, h1⟩, h3⟩
    cases hk : keptP N rs with
    | true =>
      rw [hk] at hlow
      subst HL
      exact freeP_kept N (2 * N + 1) u p po rs.length c rs w (by omega) (by omega) rfl (hide rfl) (by omega) (hide HX) (hide hr) (hide hok) (hide hlow)
    | false =>
      rw [hk] at hlow
      refine (freeP_core (N : Int) u l c w (hide hok) (hide hlow)).mono ?_
      rintro e w' ⟨rfl, hb⟩
      exact ⟨_, rfl, World.ownsRow_nil _ _ _ _, hb⟩
end Go.Proofs.Ytchdmigeopmacaa
