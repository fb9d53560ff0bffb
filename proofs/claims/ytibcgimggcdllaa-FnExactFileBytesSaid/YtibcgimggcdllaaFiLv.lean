/-
  Small functions of files: numbers in two bytes, marks, a feature's numbers and their rules.
-/
import Derived.Test.YtibcgimggcdllaaFiMath
namespace Go.Proofs.Ytibcgimggcdllaa
open Go.ChangeShapes Go.WideShapes Go.ChangeAt Go.RowKit
set_option linter.unusedVariables false
set_option linter.unusedSimpArgs false

theorem u8_in {x : Int} (h0 : 0 ≤ x) (h1 : x < 256) : IntKind.u8.wrap x = x := by
  have := Int.emod_eq_of_lt h0 h1
  simp [IntKind.wrap, IntKind.signed, IntKind.bits] at *
  omega
theorem u8_mod {x : Int} (h0 : 0 ≤ x) : IntKind.u8.wrap x = x % 256 := by
  simp [IntKind.wrap, IntKind.signed, IntKind.bits]
theorem twoM_any (n : Int) (w : World) (h0 : 0 ≤ n) (h1 : n < 65536) :
    Calls Try.prog 23 #[.int .i64 n] w fun e w' => (∃ g, e = .returned (.slice (some ⟨g, 0, none⟩) 2 2) ∧ w.heap.size ≤ g ∧ vb w' g 5 (byL (two n))) ∧ Below w.heap.size w w' := by
  have a0 : 0 ≤ n / 256 ∧ n / 256 < 256 := by omega
  have t0 : n.tdiv 256 = n / 256 := by rw [Int.tdiv_eq_ediv_of_nonneg h0]
  have t1 : n.tmod 256 = n % 256 := by rw [Int.tmod_eq_emod_of_nonneg h0]
  have b0 : 0 ≤ n % 256 ∧ n % 256 < 256 := by omega
  have w0 : IntKind.u8.wrap (n / 256) = n / 256 := u8_in a0.1 a0.2
  have w1 : IntKind.u8.wrap (n % 256) = n % 256 := u8_in b0.1 b0.2
  go_enter Try.func23, Try.ntmps23
  go_wp2_with fail
  go_ret
  exact ⟨⟨_, rfl, Nat.le_refl _, vb_new w 5 [.int .u8 (n / 256), .int .u8 (n % 256)] _ rfl⟩, ba (Below.refl _ _) _⟩
theorem twoP_any (n : Int) (w : World) (h0 : 0 ≤ n) (h1 : n < 65536) :
    Calls Try.prog 42 #[.int .i64 n] w fun e w' => e = .returned (.agg #[.int .u8 (n / 256), .int .u8 (n % 256)]) ∧ Below w.heap.size w w' := by
  have w0 : IntKind.u8.wrap (n / 256) = n / 256 := u8_in (by omega) (by omega)
  have w1 : IntKind.u8.wrap n = n % 256 := u8_mod h0
  go_enter Try.func42, Try.ntmps42
  go_wp2_with fail
  exact bodyPost_ret (v := .agg #[.int .u8 (n / 256), .int .u8 (n % 256)]) (by simp [results, Try.results42, go_sem]) rfl ⟨rfl, by repeat (first | exact Below.refl _ _ | refine ba ?_ _ | refine Below.setCell ?_ (Nat.le_refl _) _)⟩
theorem mark_any (m n : Int) (w : World) (h0 : 0 ≤ n) (h1 : n < 65536) :
    Calls Try.prog 28 #[.int .u8 m, .int .i64 n] w fun e w' => (∃ g, e = .returned (.slice (some ⟨g, 0, none⟩) 3 3) ∧ w.heap.size ≤ g ∧ vb w' g 5 (byL ([m] ++ two n))) ∧ Below w.heap.size w w' := by
  have HC := hide (fun W => twoP_any n W h0 h1)
  go_enter Try.func28, Try.ntmps28
  go_wp2_with fail
  refine (unhide HC _).mono ?_
  rintro e W1 ⟨rfl, hb⟩
  have HB := hide hb
  have hsz := hb.size
  clear hb
  go_wp2_with fail
  go_ret
  refine ⟨⟨_, rfl, ?_, vb_new (W1.alloc _) 5 [.int .u8 m, .int .u8 (n / 256), .int .u8 (n % 256)] _ (by simp)⟩, ba (ba (unhide HB) _) _⟩
  omega
def numV (f : Ft) : Value := .agg #[.int .i64 f.kd, .int .i64 f.sd, .int .i64 f.ct, .int .i64 f.x0, .int .i64 f.y0, .int .i64 f.z0, .int .i64 f.x1, .int .i64 f.y1, .int .i64 f.z1, .int .i64 f.dx, .int .i64 f.dy, .int .i64 f.dz]
set_option maxHeartbeats 1000000 in
theorem nums_any (f : Ft) (w : World) : Calls Try.prog 39 #[ftv f] w fun e w' => e = .returned (numV f) ∧ Below w.heap.size w w' := by
  obtain ⟨nm, on, ov, kd, sd, x0, y0, z0, x1, y1, z1, ct, dx, dy, dz⟩ := f
  unfold ftv numV
  go_enter Try.func39, Try.ntmps39
  go_wp2_with fail
  exact bodyPost_ret (v := .agg #[.int .i64 kd, .int .i64 sd, .int .i64 ct, .int .i64 x0, .int .i64 y0, .int .i64 z0, .int .i64 x1, .int .i64 y1, .int .i64 z1, .int .i64 dx, .int .i64 dy, .int .i64 dz]) (by simp [results, Try.results39, go_sem]) rfl ⟨rfl, by repeat (first | exact Below.refl _ _ | refine ba ?_ _ | refine Below.setCell ?_ (by simp) _)⟩
end Go.Proofs.Ytibcgimggcdllaa
