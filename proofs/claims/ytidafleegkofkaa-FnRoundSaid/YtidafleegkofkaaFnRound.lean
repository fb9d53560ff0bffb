/-
  FnRound answers true at every code: the program rounds a drawn fraction as the document asks.
-/
import Derived.Test.YtidafleegkofkaaThree
import Derived.ShutString
import Derived.ChangeOld
namespace Go.Proofs.Ytidafleegkofkaa
open Go.ChangeShapes Go.WideShapes Go.ChangeAt Go.RowKit
open Go.ChangeMaps (open_string shut_string)
set_option linter.unusedVariables false
set_option linter.unusedSimpArgs false

theorem labs_any (n : Int) (w : World) (h1 : -9223372036854775807 ≤ n) (h2 : n ≤ 9223372036854775807) :
    Calls Try.prog 6 #[.int .i64 n] w fun e w' => e = .returned (.int .i64 (n.natAbs : Int)) ∧ w' = w := by
  by_cases hn : n < 0
  · go_enter Try.func6, Try.ntmps6
    go_wp2
    go_ret
    exact ⟨ret_int (by omega), rfl⟩
  · go_enter Try.func6, Try.ntmps6
    go_wp2
    go_ret
    exact ⟨ret_int (by omega), rfl⟩

theorem near_facts (n d : Int) (h : 1 ≤ d) : (evenV n d = n / d ∨ evenV n d ≠ n / d ∧ evenV n d = -((-n) / d)) ∧ n - d ≤ evenV n d * d ∧ evenV n d * d ≤ n + d ∧
    (((2 * (n - evenV n d * d)).natAbs : Int) < d ∨ ¬ ((2 * (n - evenV n d * d)).natAbs : Int) < d ∧ ((2 * (n - evenV n d * d)).natAbs : Int) = d ∧ (evenV n d).tmod 2 = 0) := by
  have hl := low_bd n d h
  have hu := up_eq n d h
  have he := even_cases n d
  have hm : (n / d + 1) * d = n / d * d + d := by rw [Int.add_mul, Int.one_mul]
  rcases he with ⟨c1, e⟩ | ⟨c1, c2, c3, e⟩ | ⟨c1, c2, c3, e⟩ | ⟨c1, c2, e⟩
  · rw [decide_eq_true_iff] at c1
    rw [e, hu, if_pos (by omega), hm]
    refine ⟨Or.inr ⟨by omega, rfl⟩, by omega, by omega, Or.inl (by omega)⟩
  · rw [decide_eq_false_iff_not] at c1
    rw [beq_iff_eq] at c2
    rw [bne_iff_ne] at c3
    rw [e, hu, if_pos (by omega), hm]
    refine ⟨Or.inr ⟨by omega, rfl⟩, by omega, by omega, Or.inr ⟨by omega, by omega, ?_⟩⟩
    have hlt := tmod_abs_lt (n / d) 2 (by omega)
    have h1 : 2 * (n / d).tdiv 2 + (n / d).tmod 2 = n / d := Int.mul_tdiv_add_tmod (n / d) 2
    have h2 : 2 * (n / d + 1).tdiv 2 + (n / d + 1).tmod 2 = n / d + 1 := Int.mul_tdiv_add_tmod (n / d + 1) 2
    have h3 := tmod_abs_lt (n / d + 1) 2 (by omega)
    omega
  · rw [decide_eq_false_iff_not] at c1
    rw [beq_iff_eq] at c2
    rw [bne_eq_false_iff_eq] at c3
    rw [e]
    exact ⟨Or.inl rfl, by omega, by omega, Or.inr ⟨by omega, by omega, c3⟩⟩
  · rw [decide_eq_false_iff_not] at c1
    rw [beq_eq_false_iff_ne] at c2
    rw [e]
    exact ⟨Or.inl rfl, by omega, by omega, Or.inl (by omega)⟩

theorem up_facts (n d : Int) (h : 1 ≤ d) : n ≤ -((-n) / d) * d ∧ -((-n) / d) * d < n + d ∧ (-((-n) / d) - 1) * d < n ∧ n - d ≤ (-((-n) / d) - 1) * d := by
  have hl := low_bd n d h
  have e2 : ∀ q : Int, (q - 1) * d = q * d - d := fun q => by rw [Int.sub_mul, Int.one_mul]
  rw [e2, up_eq n d h]
  split
  · rw [Int.add_mul, Int.one_mul]; omega
  · omega

set_option maxRecDepth 100000 in
set_option maxHeartbeats 2000000 in
theorem fnRound_core (a : Option Addr) (len cap : Nat) (zs : List Int) (w : World) (hc : Code w.heap.size w a len cap zs) (hl : len ≤ 1048576)
    (HR : Hid (∀ (n d m : Int) (W : World), frOk n d = true → Calls Try.prog 5 #[.agg #[.int .i64 n, .int .i64 d], .int .i64 m] W fun e w' => e = .returned (.tuple #[.int .i64 (rdV n d m), .int .i64 (rdC m)]) ∧ Below W.heap.size W w')) :
    Calls Try.prog 3 #[.slice a len cap] w fun e w' => e = .returned (.bool true) ∧ Below w.heap.size w w' := by
  have HF := hide (fracs_any a len cap zs w hc (by omega))
  clear hc
  go_enter Try.func3, Try.ntmps3
  go_wp2_with fail
  refine (unhide HF).mono ?_
  rintro e w1 ⟨n, d, X1, Y1, X2, Y2, rfl, ok0, ok1, ok2, hb⟩
  have W1 := hide hb
  obtain ⟨⟨h1, h2⟩, h, hd⟩ := ok_bd ok0
  have R1 : Hid (∀ W, Calls Try.prog 5 #[.agg #[.int .i64 n, .int .i64 d], .int .i64 1] W fun e w' => e = .returned (.tuple #[.int .i64 (n / d), .int .i64 0]) ∧ Below W.heap.size W w') := hide (fun W => unhide HR n d 1 W ok0)
  have R2 : Hid (∀ W, Calls Try.prog 5 #[.agg #[.int .i64 n, .int .i64 d], .int .i64 2] W fun e w' => e = .returned (.tuple #[.int .i64 (-((-n) / d)), .int .i64 0]) ∧ Below W.heap.size W w') := hide (fun W => unhide HR n d 2 W ok0)
  have R3 : Hid (∀ W, Calls Try.prog 5 #[.agg #[.int .i64 n, .int .i64 d], .int .i64 3] W fun e w' => e = .returned (.tuple #[.int .i64 (evenV n d), .int .i64 0]) ∧ Below W.heap.size W w') := hide (fun W => unhide HR n d 3 W ok0)
  have lb := low_bd n d h
  have lb2 : n < (n / d + 1) * d ∧ (n / d + 1) * d ≤ n + d := by rw [Int.add_mul, Int.one_mul]; omega
  have ub := up_facts n d h
  obtain ⟨hE, eb1, eb2, hF⟩ := near_facts n d h
  have qb := quo_bd n d h h1 h2
  have qb2 : -1000000000 ≤ -((-n) / d) ∧ -((-n) / d) ≤ 1000000000 := by have := quo_bd (-n) d h (by omega) (by omega); omega
  clear hb ok0 ok1 ok2 HR HF
  generalize -((-n) / d) = U at *
  generalize n / d = L at *
  generalize evenV n d = E at *
  have eb : -2000000000 ≤ E ∧ E ≤ 2000000000 := by omega
  have t1 : decide (n < L * d) = false := decide_eq_false (by omega)
  have t2 : decide ((L + 1) * d ≤ n) = false := decide_eq_false (by omega)
  have t3 : decide (U * d < n) = false := decide_eq_false (by omega)
  have t4 : decide (n ≤ (U - 1) * d) = false := decide_eq_false (by omega)
  go_wp2_with fail
  refine (unhide R1 _).mono ?_
  rintro e v1 ⟨rfl, hb⟩
  have B1 := hide (bel_call (bel_alloc (bel_alloc (bel_alloc (unhide W1) _) _) _) hb)
  have z10 := keep1 hb (b := w1.heap.size) (o := 0) (v := .int .i64 n) (by simp [go_sem])
  have z11 := keep1 hb (b := w1.heap.size) (o := 1) (v := .int .i64 d) (by simp [go_sem])
  clear hb W1
  go_wp2_with fail
  refine (unhide R2 _).mono ?_
  rintro e v2 ⟨rfl, hb⟩
  have B2 := hide (bel_call (unhide B1) hb)
  have z20 := keep1 hb z10
  have z21 := keep1 hb z11
  clear hb B1 z10 z11
  go_wp2_with fail
  refine (unhide R3 _).mono ?_
  rintro e v3 ⟨rfl, hb⟩
  have B3 := hide (bel_call (unhide B2) hb)
  have z30 := keep1 hb z20
  have z31 := keep1 hb z21
  clear hb B2 z20 z21
  have A1 : -9223372036854775807 ≤ 2 * (n - E * d) := by omega
  have A2 : 2 * (n - E * d) ≤ 9223372036854775807 := by omega
  have HA := hide (fun W => labs_any (2 * (n - E * d)) W A1 A2)
  have hA0 : 0 ≤ ((2 * (n - E * d)).natAbs : Int) := by omega
  have hA3 : ((2 * (n - E * d)).natAbs : Int) ≤ 9223372036854775807 := by omega
  generalize ((2 * (n - E * d)).natAbs : Int) = A at *
  have fin : (decide (A < d) = true) ∨ (decide (A < d) = false ∧ (A == d) = true ∧ (E.tmod 2 == 0) = true) := by
    rcases hF with hF | ⟨f1, f2, f3⟩
    · exact .inl (decide_eq_true hF)
    · exact .inr ⟨decide_eq_false (by omega), by rw [beq_iff_eq]; exact f2, by rw [beq_iff_eq]; exact f3⟩
  have near : (E != L) = false ∨ (E != L) = true ∧ (E != U) = false := by
    rcases hE with hE | ⟨g1, g2⟩
    · exact .inl (by rw [bne_eq_false_iff_eq]; exact hE)
    · exact .inr ⟨by rw [bne_iff_ne]; exact g1, by rw [bne_eq_false_iff_eq]; exact g2⟩
  clear hF hE R1 R2 R3
  rcases fin with c1 | ⟨c1, c2, c3⟩ <;> rcases near with k1 | ⟨k1, k2⟩
  all_goals
    go_wp2_with fail
    refine (unhide HA _).mono ?_
    rintro e v4 ⟨rfl, rfl⟩
    go_wp2
    go_ret
    exact ⟨rfl, unhide B3⟩

/-- what the walk is told of bytes that came in -/
def IsRow (k : IntKind) (w : World) (a : Option Addr) (len cap : Nat) (zs : List Int) : Prop :=
  (a = none ∧ len = 0 ∧ cap = 0 ∧ zs = []) ∨
  ∃ x, a = some x ∧ len ≤ cap ∧ cap ≤ maxLen ∧ zs.length = cap ∧ (∀ i, i < zs.length → w.cell? (x.add i) = some (.int k (zs.getD i 0))) ∧ ∀ n ∈ zs, (Lit.int k n).wf = true
theorem row_code {w : World} {a : Option Addr} {len cap : Nat} {zs : List Int} (h : IsRow .u8 w a len cap zs) : Code w.heap.size w a len cap zs ∧ len ≤ maxLen := by
  rcases h with ⟨rfl, rfl, rfl, rfl⟩ | ⟨x, rfl, hl, hm, hz, hcell, hwz⟩
  · exact ⟨.inl rfl, by unfold maxLen; omega⟩
  · refine ⟨?_, Nat.le_trans hl hm⟩
    by_cases h0 : len = 0
    · exact .inl h0
    · obtain ⟨b, off, spot⟩ := x
      have hc := hcell 0 (by omega)
      have hspot : spot = none := by simpa [Addr.add] using World.cell?_spot hc
      subst hspot
      have hc0 : w.cell? ⟨b, off, none⟩ = some (.int .u8 (zs.getD 0 0)) := by simpa [Addr.add] using hc
      refine .inr ⟨b, off, rfl, cell_lt hc0, hl, hm, hz, fun i hi => ?_, fun i => ?_⟩
      · have hci := hcell i hi
        by_cases e0 : i = 0
        · subst e0; simpa [Addr.add] using hci
        · simpa [Addr.add, e0] using hci
      by_cases hi : i < zs.length
      · have e : zs.getD i 0 = zs[i] := by simp [List.getD, hi]
        rw [e]
        exact bounds_u8 (hwz _ (List.getElem_mem hi))
      · have e : zs.getD i 0 = 0 := by simp [List.getD, List.getElem?_eq_none (Nat.le_of_not_lt hi)]
        rw [e]; omega

set_option maxHeartbeats 400000 in
theorem fnRound_walk (a : Option Addr) (len cap : Nat) (zs : List Int) (w : World) (h : IsRow .u8 w a len cap zs) :
    Calls Try.prog 3 #[.slice a len cap] w fun e w' => e = .returned (.bool true) ∧ Below w.heap.size w w' := by
  obtain ⟨hc, hm⟩ := row_code h
  by_cases hl : len ≤ 1048576
  · exact fnRound_core a len cap zs w hc hl (hide fun n d m W hok => implRound_in n d m W (hide hok))
  · unfold maxLen at hm
    clear hc h
    go_enter Try.func3, Try.ntmps3
    go_wp2
    go_ret
    exact ⟨rfl, Below.refl _ _⟩

theorem fnRound_own : ownKnob Try.prog.godebug = none := by kernel_rfl
theorem fnRound_laidOut : laidOutB Try.prog = true := by kernel_rfl

set_option maxRecDepth 100000 in
theorem fnRound_lifted (os : Os) (started : os.Started) (H : Type) (enc : TypeId × Value → H) :
    ReturnsInHanded {} Try.checked os 3 .any (Rows.fnRoundSpec.pre6 enc Try.prog Try.f3 Rows.fnRoundRow.domain false) (Rows.fnRoundSpec.post enc Try.prog Try.f3 false true false false) := by
  refine returnsInHanded_of_change (C := Try.checked) fnRound_own started (by kernel_rfl) Try.func3
    (ChangeSpec.witness6 (enc := enc) (C := Try.checked) false ⟨#[], #[.slice none 0 0], []⟩ 8 (by kernel_rfl) (by kernel_rfl) (by kernel_rfl) (by kernel_rfl)) ?_
  intro W base args ds gs before hval0 hW hcnd _
  have hval : ∀ (j : Nat) t v, Try.f3.params[j]? = some t → args[j]? = some v → Value.okWide Try.prog W .any base t v := hval0
  have hW' := hW
  obtain ⟨p, q, hA0, hV, rfl, hfz, hnd⟩ := hW
  have hA : DataW.TrodAll enc Try.prog W 0 (fun _ => true) true Try.f3.params.toList args.toList ds p := hA0
  rw [Try.params3] at hA hval
  obtain ⟨v0, vs0, d0, ds0, p0, q0, hargs, rfl, rfl, h0, r0⟩ := trodAll_cons hA
  obtain ⟨rfl, rfl, rfl⟩ := trodAll_nil r0
  obtain rfl : args = #[v0] := by cases args; simp_all
  obtain ⟨rfl, rfl⟩ := trodVars_none hV
  obtain ⟨a0, len0, cap0, rfl⟩ := okWide_slice Try.underlying22 (hval 0 22 v0 rfl rfl)
  have k0 := h0
  have lt0 : ∀ x ∈ p0, x.block < W.heap.size := by obtain ⟨m, hm⟩ := k0; exact DataW.trod_lt m _ _ _ hm
  obtain ⟨z0, w0⟩ : ∃ zs, IsRow .u8 W a0 len0 cap0 zs := by
    obtain ⟨fuel, hf⟩ := h0
    rcases open_ints Try.underlying22 Try.underlying5 (by kernel_rfl) hf with ⟨hcs, _⟩ | ⟨x, l, c, zs, hcs, _, hl, hm, hz, _, hcell, hwz⟩
    · simp [Value.cells] at hcs
      obtain ⟨rfl, rfl, rfl⟩ := hcs
      exact ⟨[], .inl ⟨rfl, rfl, rfl, rfl⟩⟩
    · simp [Value.cells] at hcs
      obtain ⟨rfl, rfl, rfl⟩ := hcs
      exact ⟨zs, .inr ⟨_, rfl, hl, hm, by simpa using hz, hcell, hwz⟩⟩
  clear hA0 hval0
  refine (fnRound_walk a0 len0 cap0 z0 W w0).mono fun e W' ⟨he, bel⟩ => ?_
  subst he
  exact ⟨_, rfl, _, _, _, [], _, [], hW', trodAll_mk1 (shut_bool Try.underlying4 _), (trodAll_cons_mk (Below.trod fnRound_laidOut (by kernel_rfl) (of_decide_eq_true (by kernel_rfl)) k0 bel lt0) trodAll_mk0), rfl, bel.frame _, fun h => by cases h⟩

theorem fnRound_over : Rows.fnRoundRow.holds Try.pinned (OpenSpec.ofChange Rows.fnRoundSpec) :=
  OpenClaim.holds_of_wide 3 Try.f3 rfl rfl rfl rfl rfl rfl rfl ⟨rfl, rfl, rfl, rfl, rfl⟩ rfl rfl rfl rfl rfl (by kernel_rfl) Try.func3 (by kernel_rfl)
    (of_decide_eq_true (by kernel_rfl)) (by unfold Func.isWrapper; first | (rw [if_pos (by decide +kernel)]; kernel_rfl) | (rw [if_neg (by decide +kernel)]; exact ⟨rfl, rfl⟩))
    (fun os started H enc _ => fnRound_lifted os started H enc)

/-- The statement, as it was given. -/
theorem fnRound_holds : Rows.FnRoundSaid := fnRound_over
#print axioms fnRound_holds
end Go.Proofs.Ytidafleegkofkaa
