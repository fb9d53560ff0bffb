/-
  A hall in memory, and the program's looks at it.
-/
import Derived.Test.YtbgekppggakdoaaPnC
import Derived.Test.YtbgekppggakdoaaJbRows
import Derived.BigRegion
namespace Go.Proofs.Ytbgekppggakdoaa
open Go.ChangeShapes Go.WideShapes Go.ChangeAt Go.RowKit
set_option linter.unusedVariables false
set_option linter.unusedSimpArgs false

def mcc (m : Mch) : List Value := [.int .i64 m.tl, .int .i64 m.wr, .int .i64 m.fr]
def pgc (g : Nat × Int) : List Value := [.int .i64 (g.1 : Int), .int .i64 g.2]
theorem mcc_len (m : Mch) : (mcc m).length = 3 := rfl
theorem pgc_len (g : Nat × Int) : (pgc g).length = 2 := rfl
/-- a hall: its own block, its machines, its jobs' states -/
structure Hm (W : World) (hb gm gs m : Nat) (S L : Int) (u : Option Addr) (n c : Nat) (h : Hl) : Prop where
  hd : vb W hb 85 [.int .i64 (m : Int), .int .i64 S, .int .i64 L, .slice u n c, .slice (some ⟨gm, 0, none⟩) m m, .slice (some ⟨gs, 0, none⟩) n n]
  mc : vb W gm 122 (flatG mcc h.ms)
  st : vb W gs 87 (flatG pgc h.pg)
  ml : h.ms.length = m
  gl : h.pg.length = n
  n1 : gm ≠ gs
  n2 : gm ≠ hb
  n3 : gs ≠ hb
theorem Hm.bel {W W' : World} {hb gm gs m : Nat} {S L : Int} {u : Option Addr} {n c : Nat} {h : Hl} (H : Hm W hb gm gs m S L u n c h) (b : Below W.heap.size W W') : Hm W' hb gm gs m S L u n c h := ⟨H.hd.bel b, H.mc.bel b, H.st.bel b, H.ml, H.gl, H.n1, H.n2, H.n3⟩
theorem Hm.mat {W : World} {hb gm gs m : Nat} {S L : Int} {u : Option Addr} {n c : Nat} {h : Hl} (H : Hm W hb gm gs m S L u n c h) {i : Nat} {x : Mch} (hi : h.ms[i]? = some x) : W.cell? ⟨gm, i * 3, none⟩ = some (.int .i64 x.tl) ∧ W.cell? ⟨gm, i * 3 + 1, none⟩ = some (.int .i64 x.wr) ∧ W.cell? ⟨gm, i * 3 + 2, none⟩ = some (.int .i64 x.fr) :=
  ⟨H.mc.cell (flatG_at mcc_len hi (j := 0) rfl), H.mc.cell (flatG_at mcc_len hi (j := 1) rfl), H.mc.cell (flatG_at mcc_len hi (j := 2) rfl)⟩
theorem Hm.sat {W : World} {hb gm gs m : Nat} {S L : Int} {u : Option Addr} {n c : Nat} {h : Hl} (H : Hm W hb gm gs m S L u n c h) {i : Nat} {g : Nat × Int} (hi : h.pg[i]? = some g) : W.cell? ⟨gs, i * 2, none⟩ = some (.int .i64 (g.1 : Int)) ∧ W.cell? ⟨gs, i * 2 + 1, none⟩ = some (.int .i64 g.2) :=
  ⟨H.st.cell (flatG_at pgc_len hi (j := 0) rfl), H.st.cell (flatG_at pgc_len hi (j := 1) rfl)⟩
theorem drewBel (w : World) (k : Nat) : Below w.heap.size w (w.drewN k) := bel_dn' (Below.refl _ _) k
set_option maxHeartbeats 2000000 in
theorem hasL_any (hb gm gs m : Nat) (S L : Int) (u : Option Addr) (p po n c : Nat) (J : List Jb) (h : Hl) (q : Nat) (w : World) (hq : q < n) (hn : n ≤ 4096) (H : Hm w hb gm gs m S L u n c h) (hl : J.length = n) (hu : Jbs w u p po J) :
    Calls Try.prog 62 #[.pointer (some ⟨hb, 0, none⟩), .int .i64 (q : Int)] w fun e w' => e = .returned (.bool (lft J h q)) ∧ Below w.heap.size w w' := by
  obtain ⟨j, hj⟩ := get_some hl hq
  obtain ⟨g, hg⟩ := get_some H.gl hq
  obtain ⟨rfl, pw, _, _, k2⟩ := hu.at hj
  obtain ⟨s0, s1⟩ := H.sat hg
  have k3 := H.hd.cell (m := 3) rfl
  have k5 := H.hd.cell (m := 5) rfl
  have hjo := hu.each j (List.mem_of_getElem? hj)
  have HQ : Hid (lft J h q = decide (g.1 < j.sn)) := hide (by
    unfold lft
    rw [getD_some hg, hj]
    simp only [Option.map_some, Option.getD_some]
    exact decide_eq_decide.2 (by rw [hjo.len]))
  have l1 := H.hd.lt
  have l2 := H.st.lt
  have q0 : (0 : Int) ≤ (q : Int) := Int.natCast_nonneg _
  have q1 : (q : Int) < (n : Int) := by omega
  clear H hu hjo hj hg hl
  go_enter Try.func62, Try.ntmps62
  go_wp2_with fail
  go_region
  go_wp2_with fail
  go_ret
  exact ⟨by rw [unhide HQ]; rfl, by repeat (first | exact Below.refl _ _ | refine Below.drew ?_)⟩
set_option maxHeartbeats 1000000 in
theorem lasts_any (tl wr : Int) (a b c d L : Int) (w : World) (h1 : 0 ≤ wr ∧ wr ≤ 1000) (h2 : 0 ≤ d ∧ d ≤ 1000) :
    Calls Try.prog 76 #[.agg #[.int .i64 tl, .int .i64 wr], .agg #[.int .i64 a, .int .i64 b, .int .i64 c, .int .i64 d], .int .i64 L] w fun e w' => e = .returned (.bool (tl == c && decide (wr + d ≤ L))) ∧ Below w.heap.size w w' := by
  have ww : IntKind.i64.wrap (wr + d) = wr + d := wrap_i (by omega) (by omega)
  cases t1 : (tl == c) with
  | false =>
    go_enter Try.func76, Try.ntmps76
    go_wp2_with fail
    go_ret
    exact ⟨rfl, ba (ba (Below.refl _ _) _) _⟩
  | true =>
    cases t2 : decide (wr + d ≤ L) <;>
    · go_enter Try.func76, Try.ntmps76
      go_wp2_with fail
      go_ret
      exact ⟨rfl, ba (ba (Below.refl _ _) _) _⟩
set_option maxHeartbeats 1000000 in
theorem fresh_any (fr tl wr : Int) (a b c d L : Int) (w : World) (h1 : 0 ≤ wr ∧ wr ≤ 1000) (h2 : 0 ≤ d ∧ d ≤ 1000) :
    Calls Try.prog 37 #[.agg #[.int .i64 fr, .int .i64 tl, .int .i64 wr], .agg #[.int .i64 a, .int .i64 b, .int .i64 c, .int .i64 d], .int .i64 L] w fun e w' => e = .returned (.bool (frsh L ⟨tl, wr, fr⟩ ⟨a, b, c, d⟩)) ∧ Below w.heap.size w w' := by
  have ww : IntKind.i64.wrap (wr + d) = wr + d := wrap_i (by omega) (by omega)
  have HQ : Hid (frsh L ⟨tl, wr, fr⟩ ⟨a, b, c, d⟩ = !(tl == c && decide (wr + d ≤ L))) := hide rfl
  cases t1 : (tl == c) with
  | false =>
    have t1' : (tl != c) = true := by simp [bne, t1]
    go_enter Try.func37, Try.ntmps37
    go_wp2_with fail
    go_ret
    exact ⟨by rw [unhide HQ, t1]; rfl, ba (ba (Below.refl _ _) _) _⟩
  | true =>
    have t1' : (tl != c) = false := by simp [bne, t1]
    by_cases t2 : wr + d ≤ L
    · have t3 : decide (L < wr + d) = false := decide_eq_false (by omega)
      go_enter Try.func37, Try.ntmps37
      go_wp2_with fail
      go_ret
      exact ⟨by rw [unhide HQ, t1, decide_eq_true t2]; rfl, ba (ba (Below.refl _ _) _) _⟩
    · have t3 : decide (L < wr + d) = true := decide_eq_true (by omega)
      have HT2 := hide (decide_eq_false t2)
      go_enter Try.func37, Try.ntmps37
      go_wp2_with fail
      go_ret
      exact ⟨by rw [unhide HQ, t1, unhide HT2]; rfl, ba (ba (Below.refl _ _) _) _⟩
end Go.Proofs.Ytbgekppggakdoaa
