/-
  The field's points, row by row, as an iterator.
-/
import Derived.Test.YtjhldjojkaphkaaItr
import Derived.Test.YtjhldjojkaphkaaAbM
namespace Go.Proofs.Ytjhldjojkaphkaa
open Go.ChangeShapes Go.WideShapes Go.ChangeAt Go.RowKit Go.Shelf
attribute [local go_sem] Oper.semAt_some
set_option linter.unusedVariables false
set_option linter.unusedSimpArgs false

theorem risM (W H n c g po : Nat) (w : World) :
    Calls Try.prog 51 #[fldV (W : Int) (H : Int) (some ⟨g, po, none⟩) n c] w fun e w' => e = .returned (.func (.func 86) #[] #[.pointer (some ⟨w.heap.size, 0, none⟩)]) ∧ w' = w.alloc (.cells #[.int .i64 (W : Int), .int .i64 (H : Int), .slice (some ⟨g, po, none⟩) n c] 25) := by
  unfold fldV
  go_enter Try.func51, Try.ntmps51
  go_wp2_with fail
  go_ret
  exact ⟨rfl, rfl⟩
/-- the k-th point of a field -/
def ptk (W k : Nat) : Array Value := #[.agg #[.int .i64 ((k % W : Nat) : Int), .int .i64 ((k / W : Nat) : Int)]]
theorem ptk_at {W x y : Nat} (hx : x < W) : ptk W (y * W + x) = #[.agg #[.int .i64 (x : Int), .int .i64 (y : Int)]] := by
  unfold ptk
  have h1 : (y * W + x) % W = x := by rw [Nat.mul_comm, Nat.mul_add_mod]; exact Nat.mod_eq_of_lt hx
  have h2 : (y * W + x) / W = y := by rw [Nat.mul_comm, Nat.mul_add_div (by omega), Nat.div_eq_of_lt hx]; omega
  rw [h1, h2]
set_option maxRecDepth 100000 in
set_option maxHeartbeats 2000000 in
theorem risS (m W H n c g po Bf n₀ : Nat) (w : World) (hW1 : 1 ≤ W) (hW : W ≤ 24) (hH : H ≤ 24) (hB : Bf < n₀) (hn₀ : n₀ ≤ w.heap.size) (hv : vb w Bf 25 [.int .i64 (W : Int), .int .i64 (H : Int), .slice (some ⟨g, po, none⟩) n c]) :
    SeqO Fence.wide m Try.prog 86 #[.pointer (some ⟨Bf, 0, none⟩)] (ptk W) (W * H) n₀ w := by
  intro l J Jx W0 hW0 hJ hJx hY h0
  have hv0 : vb W0 Bf 25 [.int .i64 (W : Int), .int .i64 (H : Int), .slice (some ⟨g, po, none⟩) n c] := hv.below hW0 (by omega)
  have HY := hide hY
  have HJ0 := hide h0
  have HVk : Hid (∀ X, Below n₀ W0 X → vb X Bf 25 [.int .i64 (W : Int), .int .i64 (H : Int), .slice (some ⟨g, po, none⟩) n c]) := hide (fun X hX => hv0.below hX hB)
  have k0 := hv0.cell (m := 0) rfl
  have k1 := hv0.cell (m := 1) rfl
  clear hv hv0 hW0 hJ hJx hY h0
  refine callsIn_of_wp Try.func86 rfl trivial ?_ rfl
  simp only [Try.ntmps86, List.size_toArray, List.length_cons, List.length_nil, Nat.reduceAdd, Nat.reduceSub, Array.replicate_succ, Array.replicate_zero, List.push_toArray, List.append_toArray, List.nil_append, List.cons_append]
  gi_wp2
  clear k0 k1
  gi_loopw [7] (fun s X => ∃ y : Nat, s = .int .i64 (y : Int) ∧ y ≤ H ∧ J (fun _ => False) (y * W) X ∧ Below n₀ W0 X) (fun s _ => H - (intOf s).toNat)
  case atStart => exact ⟨0, rfl, Nat.zero_le _, by rw [Nat.zero_mul]; exact unhide HJ0, Below.refl _ _⟩
  case round =>
    obtain ⟨y, rfl, hy, hj, hb⟩ := hrel
    have HJ := hide hj
    have HB := hide hb
    clear hj hb
    by_cases hyH : y < H
    · have y1 : decide ((y : Int) < (H : Int)) = true := decide_eq_true (by omega)
      have k0 := (unhide HVk _ (unhide HB)).cell (m := 0) rfl
      gi_wp2
      clear k0
      gi_loopw [12] (fun s X => ∃ x : Nat, s = .int .i64 (x : Int) ∧ x ≤ W ∧ J (fun _ => False) (y * W + x) X ∧ Below n₀ W0 X) (fun s _ => W - (intOf s).toNat)
      case atStart => exact ⟨0, rfl, Nat.zero_le _, unhide HJ, unhide HB⟩
      case round =>
        obtain ⟨x, rfl, hx, hj, hb⟩ := hrel
        have HJ2 := hide hj
        have HB2 := hide hb
        clear hj hb
        by_cases hxW : x < W
        · have x1 : decide ((x : Int) < (W : Int)) = true := decide_eq_true (by omega)
          have wx1 : IntKind.i64.wrap ((x : Int) + 1) = ((x + 1 : Nat) : Int) := (wrap_i (by omega) (by omega)).trans (by simp)
          obtain ⟨fn, tmps, assign, body, hy, hR⟩ := unhide HY (fun _ => False) (y * W + x) _ (ix_lt hxW hyH) (fun _ h => h.elim) (unhide HJ2)
          rw [ptk_at hxW] at hy
          gi_wp2
          refine ⟨fun h => (by cases h), hR.mono ?_⟩
          rintro e W3 (⟨rfl, hJ3, hk3⟩ | ⟨rfl, hJx3⟩)
          · have HJ3 := hide hJ3
            have HK3 := hide ((unhide HB2).trans hk3.bel)
            clear hJ3 hk3 hR hy
            gi_wp2
            go_roundw
            case rel => exact ⟨x + 1, rfl, by omega, unhide HJ3, unhide HK3⟩
            case measure => simp only [intOf]; omega
          · clear hR hy
            have HX3 := hide hJx3
            clear hJx3
            gi_wp2
            refine bodyPost_ret (results_none rfl _ _ _) rfl ?_
            exact ⟨⟨_, rfl⟩, fun _ => False, .inr ⟨_, ix_lt hxW hyH, unhide HX3⟩⟩
        · have x1 : decide ((x : Int) < (W : Int)) = false := decide_eq_false (by omega)
          have wy1 : IntKind.i64.wrap ((y : Int) + 1) = ((y + 1 : Nat) : Int) := (wrap_i (by omega) (by omega)).trans (by simp)
          obtain rfl : x = W := by omega
          gi_wp2
          go_roundw
          case rel => exact ⟨y + 1, rfl, by omega, by rw [Nat.add_mul, Nat.one_mul]; exact unhide HJ2, unhide HB2⟩
          case measure => simp only [intOf]; omega
    · have y1 : decide ((y : Int) < (H : Int)) = false := decide_eq_false (by omega)
      obtain rfl : y = H := by omega
      gi_wp2
      go_end0
      exact ⟨⟨_, rfl⟩, fun _ => False, .inl (by rw [Nat.mul_comm]; exact unhide HJ)⟩
end Go.Proofs.Ytjhldjojkaphkaa
