/-
  The model's machines.
-/
import Derived.Test.YtbgekppggakdoaaHlI
namespace Go.Proofs.Ytbgekppggakdoaa
open Go.ChangeShapes Go.WideShapes Go.ChangeAt Go.RowKit
set_option linter.unusedVariables false
set_option linter.unusedSimpArgs false

/-- a machine's cells in the model -/
def mcm (m : Mch) : List Value := [.int .i64 m.fr, .int .i64 m.tl, .int .i64 m.wr]
theorem mcm_len (m : Mch) : (mcm m).length = 3 := rfl
theorem mcm_info : (Try.prog.info? 73).map (fun i => (i.zero, i.size, i.bytes)) = some (some (.agg #[.int .i64 0, .int .i64 0, .int .i64 0]), 3, 24) := by kernel_rfl
theorem mcm_one (l : List Mch) : ∀ v ∈ flatG mcm l, v.oneCell' = true := by
  induction l with
  | nil => intro v hv; cases hv
  | cons a l ih =>
    intro v hv
    rcases List.mem_append.1 hv with h | h
    · simp only [mcm, List.mem_cons, List.not_mem_nil, or_false] at h
      rcases h with rfl | rfl | rfl <;> rfl
    · exact ih v h
set_option maxRecDepth 100000 in
set_option maxHeartbeats 4000000 in
theorem macs_any (m : Nat) (h1 : 1 ≤ m) (h2 : m ≤ 6) (w : World) :
    Calls Try.prog 36 #[.int .i64 (m : Int)] w fun e w' => (∃ v, e = .returned v ∧ w'.ownsRow w.heap.size 73 3 v m (flatG mcm (List.replicate m mc0))) ∧ Below w.heap.size w w' := by
  obtain ⟨iT, ht, hx0, hx1, hx2⟩ := info_parts mcm_info
  have m0 : (0 : Int) ≤ (m : Int) := Int.natCast_nonneg _
  go_enter Try.func36, Try.ntmps36
  go_wp2_with fail
  go_loopw [3, 4] (fun v s W => ∃ k : Nat, s = .int .i64 (k : Int) ∧ k ≤ m ∧ W.ownsRow w.heap.size 73 3 v k (flatG mcm (List.replicate k mc0)) ∧ Below w.heap.size w W) (fun _ s _ => m - (intOf s).toNat)
  case atStart => exact ⟨0, rfl, Nat.zero_le _, own_made w 73 w.heap.size 3 (Nat.le_refl _) _ rfl, ba (Below.refl _ _) _⟩
  case round =>
    obtain ⟨k, rfl, hk, how, hw⟩ := hrel
    have HOW := hide how
    have HW := hide hw
    have k0 : (0 : Int) ≤ (k : Int) := Int.natCast_nonneg _
    by_cases h : k < m
    · have i1 : (k : Int) < (m : Int) := by omega
      have iz : decide ((k : Int) < (m : Int)) = true := decide_eq_true i1
      clear how hw
      go_wp2_with (at_builtin; refine unhide ?_)
      refine hide ?_
      refine wpList_append_own _ rfl _ _ 68 rfl w.heap.size 73 iT _ 3 24 Try.underlying68 ht hx0 hx1 hx2 rfl (by decide) _ k _ rfl (own_bel (unhide HOW) (ba (Below.refl _ _) _)) _ 1 1 (mcm mc0) rfl rfl (by first | exact news_cells _ _ rfl | exact news_cells _ _ (by simp)) (by intro v hv; exact mcm_one [mc0] v (by simpa [flatG] using hv)) (by unfold maxLen; omega) (by omega) (Nat.le_trans (unhide HW).size (by simp)) ?_
      intro v' w1 hown' hgrow _
      have hbw : Below w.heap.size w w1 := ((unhide HW).alloc (unhide HW).size _).grown hgrow (Nat.le_trans (unhide HW).size (by simp)) (fun g hg => (own_ge (unhide HOW) g hg).1)
      have hown2 : w1.ownsRow w.heap.size 73 3 v' (k + 1) (flatG mcm (List.replicate (k + 1) mc0)) := by
        rw [List.replicate_succ', flatG_append]
        simpa [flatG] using hown'
      have HO2 := hide hown2
      have HBW := hide hbw
      clear hown' hgrow hown2 hbw
      go_wp2_with fail
      go_roundw
      case rel => exact ⟨k + 1, by simp, h, unhide HO2, unhide HBW⟩
      case measure => first | (simp only [intOf]; omega) | (simp [intOf]; omega)
    · have iz : decide ((k : Int) < (m : Int)) = false := decide_eq_false (by omega)
      have iq : ¬ ((k : Int) < (m : Int)) := by omega
      have en : m = k := by omega
      subst en
      clear how hw
      go_wp2_with fail
      go_ret
      exact ⟨⟨_, rfl, unhide HOW⟩, unhide HW⟩
set_option maxHeartbeats 2000000 in
theorem mdo_any (fr tl wr a b c d : Int) (f : Bool) (ti : Int) (w : World) (hw : 0 ≤ wr ∧ wr ≤ 1000) (hd : 0 ≤ d ∧ d ≤ 1000) :
    Calls Try.prog 38 #[.agg #[.int .i64 fr, .int .i64 tl, .int .i64 wr], .agg #[.int .i64 a, .int .i64 b, .int .i64 c, .int .i64 d], .bool f, .int .i64 ti] w fun e w' => e = .returned (.agg #[.int .i64 (max fr ti), .int .i64 c, .int .i64 ((if f then 0 else wr) + d)]) ∧ Below w.heap.size w w' := by
  have w1 : IntKind.i64.wrap (wr + d) = wr + d := wrap_i (by omega) (by omega)
  have w2 : IntKind.i64.wrap (0 + d) = 0 + d := wrap_i (by omega) (by omega)
  cases f with
  | true =>
    go_enter Try.func38, Try.ntmps38
    go_wp2_with fail
    exact bodyPost_ret (v := .agg #[.int .i64 (max fr ti), .int .i64 c, .int .i64 d]) (by simp [results, Try.results38, go_sem]; done) rfl ⟨by simp, by repeat (first | exact Below.refl _ _ | refine ba ?_ _)⟩
  | false =>
    go_enter Try.func38, Try.ntmps38
    go_wp2_with fail
    exact bodyPost_ret (v := .agg #[.int .i64 (max fr ti), .int .i64 c, .int .i64 (wr + d)]) (by simp [results, Try.results38, go_sem]; done) rfl ⟨by simp, by repeat (first | exact Below.refl _ _ | refine ba ?_ _)⟩
end Go.Proofs.Ytbgekppggakdoaa
