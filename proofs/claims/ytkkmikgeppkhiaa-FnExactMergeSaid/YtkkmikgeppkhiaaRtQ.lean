/-
  The program's question whether a feature is right.
-/
import Derived.Test.YtkkmikgeppkhiaaRtP

namespace Go.Proofs.Ytkkmikgeppkhiaa
open Go.ChangeShapes Go.WideShapes Go.ChangeAt Go.RowKit
set_option linter.unusedVariables false
set_option linter.unusedSimpArgs false

set_option maxRecDepth 100000 in
set_option maxHeartbeats 4000000 in
theorem eqA (s o v : ByteArray) (k d x0 y0 z0 x1 y1 z1 n dx dy dz : Int) (W : World) : (binOp .eql 57 (.agg #[.string s, .string o, .string v, .int .i64 k, .int .i64 d, .int .i64 x0, .int .i64 y0, .int .i64 z0, .int .i64 x1, .int .i64 y1, .int .i64 z1, .int .i64 n, .int .i64 dx, .int .i64 dy, .int .i64 dz]) (.agg #[.string s, .string o, .string ⟨#[]⟩, .int .i64 k, .int .i64 d, .int .i64 x0, .int .i64 y0, .int .i64 z0, .int .i64 x1, .int .i64 y1, .int .i64 z1, .int .i64 0, .int .i64 0, .int .i64 0, .int .i64 0])).run Try.prog W = .ok (.bool ((v.toList == []) && (n == 0) && (dx == 0) && (dy == 0) && (dz == 0))) W := by
  cases h0 : (v.toList == [])
  · go_simp
  cases h1 : (n == 0)
  · go_simp
  cases h2 : (dx == 0)
  · go_simp
  cases h3 : (dy == 0)
  · go_simp
  cases h4 : (dz == 0)
  · go_simp
  go_simp
set_option maxRecDepth 100000 in
set_option maxHeartbeats 4000000 in
theorem eqB (s o v : ByteArray) (k d x0 y0 z0 x1 y1 z1 n dx dy dz : Int) (W : World) : (binOp .eql 57 (.agg #[.string s, .string o, .string v, .int .i64 k, .int .i64 d, .int .i64 x0, .int .i64 y0, .int .i64 z0, .int .i64 x1, .int .i64 y1, .int .i64 z1, .int .i64 n, .int .i64 dx, .int .i64 dy, .int .i64 dz]) (.agg #[.string s, .string ⟨#[]⟩, .string v, .int .i64 k, .int .i64 0, .int .i64 0, .int .i64 0, .int .i64 0, .int .i64 0, .int .i64 0, .int .i64 0, .int .i64 n, .int .i64 dx, .int .i64 dy, .int .i64 dz])).run Try.prog W = .ok (.bool ((o.toList == []) && (d == 0) && (x0 == 0) && (y0 == 0) && (z0 == 0) && (x1 == 0) && (y1 == 0) && (z1 == 0))) W := by
  cases h0 : (o.toList == [])
  · go_simp
  cases h1 : (d == 0)
  · go_simp
  cases h2 : (x0 == 0)
  · go_simp
  cases h3 : (y0 == 0)
  · go_simp
  cases h4 : (z0 == 0)
  · go_simp
  cases h5 : (x1 == 0)
  · go_simp
  cases h6 : (y1 == 0)
  · go_simp
  cases h7 : (z1 == 0)
  · go_simp
  go_simp
end Go.Proofs.Ytkkmikgeppkhiaa