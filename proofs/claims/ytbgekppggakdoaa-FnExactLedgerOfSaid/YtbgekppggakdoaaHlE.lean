/-
  A slot that is done: its machine and its job.
-/
import Derived.Test.YtbgekppggakdoaaHlD
namespace Go.Proofs.Ytbgekppggakdoaa
open Go.ChangeShapes Go.WideShapes Go.ChangeAt Go.RowKit
set_option linter.unusedVariables false
set_option linter.unusedSimpArgs false

/-- nothing that was there is changed but blocks of A -/
structure Mw (A : Nat → Prop) (w w' : World) : Prop where
  os : w'.os = w.os
  tape : w'.tape = w.tape
  output : w'.output = w.output
  size : w.heap.size ≤ w'.heap.size
  block : ∀ k, k < w.heap.size → ¬ A k → w'.heap[k]? = w.heap[k]?
theorem Mw.refl (A : Nat → Prop) (w : World) : Mw A w w := ⟨rfl, rfl, rfl, Nat.le_refl _, fun _ _ _ => rfl⟩
theorem Mw.trans {A : Nat → Prop} {a b c : World} (x : Mw A a b) (y : Mw A b c) : Mw A a c :=
  ⟨y.os.trans x.os, y.tape.trans x.tape, y.output.trans x.output, Nat.le_trans x.size y.size, fun k hk h1 => (y.block k (Nat.lt_of_lt_of_le hk x.size) h1).trans (x.block k hk h1)⟩
theorem Mw.mono {A A' : Nat → Prop} {a b : World} (x : Mw A a b) (h : ∀ k, A k → A' k) : Mw A' a b := ⟨x.os, x.tape, x.output, x.size, fun k hk h1 => x.block k hk (fun h2 => h1 (h k h2))⟩
theorem Mw.ofBel {A : Nat → Prop} {a b : World} (x : Below a.heap.size a b) : Mw A a b := ⟨x.os, x.tape, x.output, x.size, fun k hk _ => x.block k hk⟩
theorem Mw.bel {A : Nat → Prop} {a b : World} (x : Mw A a b) {B : Nat} (h1 : B ≤ a.heap.size) (h2 : ∀ k, A k → B ≤ k) : Below B a b := ⟨x.os, x.tape, x.output, x.size, fun k hk => x.block k (by omega) (fun h => by have := h2 k h; omega)⟩
theorem Mw.set {A : Nat → Prop} {a b : World} (x : Mw A a b) {g o : Nat} (v : Value) (h : A g) : Mw A a (b.setCell ⟨g, o, none⟩ v) :=
  x.trans ⟨rfl, rfl, rfl, by simp [World.setCell], fun k hk h1 => Below.heap_setCell _ _ _ _ (fun e => h1 (e ▸ h))⟩
theorem Mw.drew {A : Nat → Prop} {a b : World} (x : Mw A a b) : Mw A a b.drew := ⟨x.os, x.tape, x.output, x.size, x.block⟩
theorem Mw.dn {A : Nat → Prop} {a b : World} (x : Mw A a b) (n : Nat) : Mw A a (b.drewN n) := ⟨x.os, x.tape, x.output, x.size, x.block⟩
theorem Mw.alloc {A : Nat → Prop} {a b : World} (x : Mw A a b) (o : Obj) : Mw A a (b.alloc o) := x.trans (.ofBel (ba (Below.refl _ _) o))
theorem vb.mw {A : Nat → Prop} {w w' : World} {g t : Nat} {vs : List Value} (h : vb w g t vs) (x : Mw A w w') (ha : ¬ A g) : vb w' g t vs := (x.block g h.lt ha).trans h
theorem set_same {cs : List Value} {o : Nat} {v : Value} (h : cs[o]? = some v) : cs.set o v = cs := by
  apply List.ext_getElem?
  intro i
  rw [List.getElem?_set]
  split
  · rename_i e
    subst e
    rw [h]
    simp [(List.getElem?_eq_some_iff.1 h).1]
  · rfl
set_option maxHeartbeats 2000000 in
theorem use_any (gm o : Nat) (cs : List Value) (tl wr : Int) (a b c d : Int) (f : Bool) (w : World) (hv : vb w gm 122 cs) (h0 : cs[o]? = some (.int .i64 tl)) (h1 : cs[o + 1]? = some (.int .i64 wr)) (hw : 0 ≤ wr ∧ wr ≤ 1000) (hd : 0 ≤ d ∧ d ≤ 1000) (hf : f = false → tl = c) :
    Calls Try.prog 72 #[.pointer (some ⟨gm, o, none⟩), .agg #[.int .i64 a, .int .i64 b, .int .i64 c, .int .i64 d], .bool f] w fun e w' => e = .returned (.tuple #[]) ∧ vb w' gm 122 ((cs.set o (.int .i64 c)).set (o + 1) (.int .i64 ((if f then 0 else wr) + d))) ∧ Mw (· = gm) w w' := by
  have x0 := hv.cell h0
  have x1 := hv.cell h1
  have fz : ∀ o, w.frozen? ⟨gm, o, none⟩ = false := hv.frozen
  have lt := hv.lt
  have HV := hide hv
  have H0 := hide h0
  have H1 := hide h1
  have HF := hide hf
  clear hv h0 h1 hf
  cases f with
  | true =>
    have ww : IntKind.i64.wrap (0 + d) = 0 + d := wrap_i (by omega) (by omega)
    go_enter Try.func72, Try.ntmps72
    go_wp2_with fail
    go_region
    go_wp2_with fail
    have r := ((((unhide HV).set o (.int .i64 c)).set (o + 1) (.int .i64 0)).set (o + 1) (.int .i64 d)).bel (ba (Below.refl _ _) (.cells #[.int .i64 a, .int .i64 b, .int .i64 c, .int .i64 d] 61))
    refine bodyPost_end (v := .tuple #[]) (by simp [results, Try.results72, go_sem]) rfl ⟨rfl, ?_, ?_⟩
    · have e : (((cs.set o (.int .i64 c)).set (o + 1) (.int .i64 0)).set (o + 1) (.int .i64 d)) = (cs.set o (.int .i64 c)).set (o + 1) (.int .i64 d) := by rw [List.set_set]
      rw [← e]
      exact r
    · exact (((((Mw.refl (fun x => x = gm) w).set _ rfl).set _ rfl).set _ rfl).alloc _).drew
  | false =>
    have ww : IntKind.i64.wrap (wr + d) = wr + d := wrap_i (by omega) (by omega)
    go_enter Try.func72, Try.ntmps72
    go_wp2_with fail
    go_region
    go_wp2_with fail
    have r := ((unhide HV).set (o + 1) (.int .i64 (wr + d))).bel (ba (Below.refl _ _) (.cells #[.int .i64 a, .int .i64 b, .int .i64 c, .int .i64 d] 61))
    refine bodyPost_end (v := .tuple #[]) (by simp [results, Try.results72, go_sem]) rfl ⟨rfl, ?_, ?_⟩
    · have e : cs.set o (.int .i64 c) = cs := by rw [← unhide HF (by first | rfl | trivial)]; exact set_same (unhide H0)
      rw [e]
      exact r
    · exact (((Mw.refl (fun x => x = gm) w).set _ rfl).alloc _).drew
end Go.Proofs.Ytbgekppggakdoaa
