/-
  Iterators over points and levels, what they read told block by block.
-/
import Derived.Test.YtjhldjojkaphkaaItx
import Derived.Test.YtjhldjojkaphkaaRis
import Derived.Lib.MinMax
import Derived.Sort.LoopGhostIn
namespace Go.Proofs.Ytjhldjojkaphkaa
open Go.ChangeShapes Go.WideShapes Go.ChangeAt Go.RowKit Go.Shelf
attribute [local go_sem] Oper.semAt_some
set_option linter.unusedVariables false
set_option linter.unusedSimpArgs false

set_option maxRecDepth 100000 in
set_option maxHeartbeats 2000000 in
theorem risX (W H n c g po Bf : Nat) (R : Nat → Prop) (w : World) (hW1 : 1 ≤ W) (hW : W ≤ 24) (hH : H ≤ 24) (hB : R Bf) (hv : vb w Bf 25 [.int .i64 (W : Int), .int .i64 (H : Int), .slice (some ⟨g, po, none⟩) n c]) :
    SeqX Try.prog 86 #[.pointer (some ⟨Bf, 0, none⟩)] (ptk W) (W * H) R w := by
  intro l J Jx W0 hW0 hJ hJx hY h0
  have hv0 : vb W0 Bf 25 [.int .i64 (W : Int), .int .i64 (H : Int), .slice (some ⟨g, po, none⟩) n c] := hv.bel hW0
  have HY := hide hY
  have HJ0 := hide h0
  have HV0 := hide hv0
  have k0 := hv0.cell (m := 0) rfl
  have k1 := hv0.cell (m := 1) rfl
  clear hv hv0 hW0 hJ hJx hY h0
  refine callsIn_of_wp Try.func86 rfl trivial ?_ rfl
  simp only [Try.ntmps86, List.size_toArray, List.length_cons, List.length_nil, Nat.reduceAdd, Nat.reduceSub, Array.replicate_succ, Array.replicate_zero, List.push_toArray, List.append_toArray, List.nil_append, List.cons_append]
  gi_wp2
  clear k0 k1
  gi_loopw [7] (fun s X => ∃ y : Nat, s = .int .i64 (y : Int) ∧ y ≤ H ∧ J (fun _ => False) (y * W) X ∧ vb X Bf 25 [.int .i64 (W : Int), .int .i64 (H : Int), .slice (some ⟨g, po, none⟩) n c]) (fun s _ => H - (intOf s).toNat)
  case atStart => exact ⟨0, rfl, Nat.zero_le _, by rw [Nat.zero_mul]; exact unhide HJ0, unhide HV0⟩
  case round =>
    obtain ⟨y, rfl, hy, hj, hb⟩ := hrel
    have HJ := hide hj
    have HB := hide hb
    clear hj hb
    by_cases hyH : y < H
    · have y1 : decide ((y : Int) < (H : Int)) = true := decide_eq_true (by omega)
      have k0 := (unhide HB).cell (m := 0) rfl
      gi_wp2
      clear k0
      gi_loopw [12] (fun s X => ∃ x : Nat, s = .int .i64 (x : Int) ∧ x ≤ W ∧ J (fun _ => False) (y * W + x) X ∧ vb X Bf 25 [.int .i64 (W : Int), .int .i64 (H : Int), .slice (some ⟨g, po, none⟩) n c]) (fun s _ => W - (intOf s).toNat)
      case atStart => exact ⟨0, rfl, Nat.zero_le _, unhide HJ, unhide HB⟩
      case round =>
        obtain ⟨x, rfl, hx, hj, hb⟩ := hrel
        have HJ2 := hide hj
        have HB2 := hide hb
        clear hj hb
        by_cases hxW : x < W
        · have x1 : decide ((x : Int) < (W : Int)) = true := decide_eq_true (by omega)
          have wx1 : IntKind.i64.wrap ((x : Int) + 1) = ((x + 1 : Nat) : Int) := (wrap_i (by omega) (by omega)).trans (by simp)
          obtain ⟨fn, tmps, assign, body, hy, hR⟩ := unhide HY (fun _ => False) (y * W + x) _ (ix_lt hxW hyH) (fun _ h => h.elim) (unhide HJ2)
          rw [ptk_at hxW] at hy
          gi_wp2
          refine ⟨rfl, hR.mono ?_⟩
          rintro e W3 (⟨rfl, hJ3, hk3⟩ | ⟨rfl, hJx3, _⟩)
          · have HJ3 := hide hJ3
            have HK3 := hide (hk3.vb (unhide HB2) (.inl hB))
            clear hJ3 hk3 hR hy
            gi_wp2
            go_roundw
            case rel => exact ⟨x + 1, rfl, by omega, unhide HJ3, unhide HK3⟩
            case measure => simp only [intOf]; omega
          · clear hR hy
            have HX3 := hide hJx3
            clear hJx3
            gi_wp2
            refine bodyPost_ret (results_none rfl _ _ _) rfl ?_
            exact ⟨⟨_, rfl⟩, fun _ => False, .inr ⟨_, ix_lt hxW hyH, unhide HX3⟩⟩
        · have x1 : decide ((x : Int) < (W : Int)) = false := decide_eq_false (by omega)
          have wy1 : IntKind.i64.wrap ((y : Int) + 1) = ((y + 1 : Nat) : Int) := (wrap_i (by omega) (by omega)).trans (by simp)
          obtain rfl : x = W := by omega
          gi_wp2
          go_roundw
          case rel => exact ⟨y + 1, rfl, by omega, by rw [Nat.add_mul, Nat.one_mul]; exact unhide HJ2, unhide HB2⟩
          case measure => simp only [intOf]; omega
    · have y1 : decide ((y : Int) < (H : Int)) = false := decide_eq_false (by omega)
      obtain rfl : y = H := by omega
      gi_wp2
      go_end0
      exact ⟨⟨_, rfl⟩, fun _ => False, .inl (by rw [Nat.mul_comm]; exact unhide HJ)⟩
theorem lvM (s : Int) (w : World) :
    Calls Try.prog 75 #[.int .i64 s] w fun e w' => e = .returned (.func (.func 93) #[] #[.pointer (some ⟨w.heap.size, 0, none⟩)]) ∧ w' = w.alloc (.cells #[.int .i64 s] 3) := by
  go_enter Try.func75, Try.ntmps75
  go_wp2_with fail
  go_ret
  exact ⟨rfl, rfl⟩
/-- the k-th level below 24, and how many there are -/
def lvl (s : Nat) (k : Nat) : Int := max 0 (24 - (s : Int) * ((k : Int) + 1))
def lvn (s : Nat) : Nat := (24 + s - 1) / s
theorem lvl_prev (s k : Nat) : lvl s (k + 1) = max 0 (lvl s k - (s : Int)) := by
  unfold lvl
  rw [Int.natCast_add, show (s : Int) * ((k : Int) + ((1 : Nat) : Int) + 1) = (s : Int) * ((k : Int) + 1) + (s : Int) by rw [Int.mul_add, Int.mul_add, Int.mul_add]; simp]
  omega
theorem lvn_iff {s k : Nat} (h1 : 1 ≤ s) : k < lvn s ↔ s * k < 24 := by
  unfold lvn
  rw [Nat.lt_div_iff_mul_lt (by omega), Nat.mul_comm]
  omega
theorem lvn_le {s : Nat} (h1 : 1 ≤ s) : lvn s ≤ 24 := by
  by_cases h : lvn s ≤ 24
  · exact h
  · have h2 := (lvn_iff (k := 24) h1).1 (by omega)
    have : 1 * 24 ≤ s * 24 := Nat.mul_le_mul_right 24 h1
    omega
def lvc (s k : Nat) : Array Value := #[.int .i64 (lvl s k)]
set_option maxRecDepth 100000 in
set_option maxHeartbeats 2000000 in
theorem lvX (s Bs : Nat) (R : Nat → Prop) (w : World) (hs1 : 1 ≤ s) (hs : s ≤ 24) (hB : R Bs) (hv : vb w Bs 3 [.int .i64 (s : Int)]) :
    SeqX Try.prog 93 #[.pointer (some ⟨Bs, 0, none⟩)] (lvc s) (lvn s) R w := by
  intro l J Jx W0 hW0 hJ hJx hY h0
  have HV0 := hide (hv.bel hW0)
  have HY := hide hY
  have HJ0 := hide h0
  clear hv hW0 hJ hJx hY h0
  refine callsIn_of_wp Try.func93 rfl trivial ?_ rfl
  simp only [Try.ntmps93, List.size_toArray, List.length_cons, List.length_nil, Nat.reduceAdd, Nat.reduceSub, Array.replicate_succ, Array.replicate_zero, List.push_toArray, List.append_toArray, List.nil_append, List.cons_append]
  gi_wp2
  gi_loopg [3] (lvn s) (fun kk v X => ∃ (k : Nat) (z : Int), kk = lvn s - k ∧ v = .int .i64 z ∧ k ≤ lvn s ∧ z = max 0 (24 - (s : Int) * (k : Int)) ∧ J (fun _ => False) k X ∧ vb X Bs 3 [.int .i64 (s : Int)])
  case atStart => exact ⟨0, 24, by omega, rfl, Nat.zero_le _, by simp; omega, unhide HJ0, unhide HV0⟩
  case round =>
    obtain ⟨k, z, hgk, rfl, hk, hz, hj, hvb⟩ := hrel
    have HGK := hide hgk
    have HJ := hide hj
    have HV := hide hvb
    have HZ := hide hz
    have c0 := hvb.cell (m := 0) rfl
    have hlt := lvn_iff (s := s) (k := k) hs1
    have ek : ((s * k : Nat) : Int) = (s : Int) * (k : Int) := by simp
    clear hgk hj hvb
    by_cases hkn : k < lvn s
    · have hsk := hlt.1 hkn
      have hz0 : 0 < z := by omega
      have tz := decide_eq_true hz0
      have w1 : IntKind.i64.wrap (z - (s : Int)) = z - (s : Int) := wrap_i (by omega) (by omega)
      have e1 : max 0 (z - (s : Int)) = lvl s k := by
        rw [hz]
        unfold lvl
        rw [Int.mul_add]
        omega
      obtain ⟨z2, hz2⟩ : ∃ q, lvl s k = q := ⟨_, rfl⟩
      rw [hz2] at e1
      have HZ2 := hide hz2
      obtain ⟨fn, tmps, assign, body, hy, hR⟩ := unhide HY (fun _ => False) k _ hkn (fun _ h => h.elim) (unhide HJ)
      unfold lvc at hy
      rw [hz2] at hy
      clear hz hz2 hlt ek
      gi_wp2
      refine ⟨rfl, hR.mono ?_⟩
      rintro e W3 (⟨rfl, hJ3, hk3⟩ | ⟨rfl, hJx3, _⟩)
      · have HJ3 := hide hJ3
        have HV3 := hide (hk3.vb (unhide HV) (.inl hB))
        clear hJ3 hk3 hR hy
        gi_wp2
        go_roundg (lvn s - (k + 1))
        case measure => have := unhide HGK; omega
        case rel => exact ⟨k + 1, _, rfl, rfl, by omega, by rw [← unhide HZ2]; unfold lvl; simp, unhide HJ3, unhide HV3⟩
      · clear hR hy
        have HX3 := hide hJx3
        clear hJx3
        gi_wp2
        refine bodyPost_ret (results_none rfl _ _ _) rfl ?_
        exact ⟨⟨_, rfl⟩, fun _ => False, .inr ⟨_, hkn, unhide HX3⟩⟩
    · have hz0 : ¬ 0 < z := by
        have : ¬ s * k < 24 := fun h => hkn (hlt.2 h)
        omega
      have tz := decide_eq_false hz0
      obtain rfl : k = lvn s := by omega
      clear hz hlt ek
      gi_wp2
      go_end0
      exact ⟨⟨_, rfl⟩, fun _ => False, .inl (unhide HJ)⟩
end Go.Proofs.Ytjhldjojkaphkaa
