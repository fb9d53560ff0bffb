/-
  The program's Mill answers as the model at every stock, part, tool and list of moves, right or not, changes none of them, and owns its answer.
-/
import Derived.Test.YtbjljofgpbecbaaMilB
import Derived.Test.YtbjljofgpbecbaaMdRows
import Derived.Test.YtbjljofgpbecbaaMlr
import Derived.Test.YtbjljofgpbecbaaMvOpen
import Derived.Test.YtbjljofgpbecbaaOpenRows
import Derived.Lib.SmallJoins
namespace Go.Proofs.Ytbjljofgpbecbaa
open Go.ChangeShapes Go.WideShapes Go.ChangeAt Go.RowKit
set_option linter.unusedVariables false
set_option linter.unusedSimpArgs false

theorem iblk.its2 {w : World} {g : Nat} {L : List Int} (h : iblk w g 3 L) : Its w (some ⟨g, 0, none⟩) g 0 L := fun _ => ⟨rfl, h.lt, h.ints⟩
theorem mlEnd_ex (P : List Int) (W H r : Nat) (S : List Int) (ms : List Mve) : ∃ i, MlEnd P W H r S ms i := by
  have key : ∀ d i, i + d = ms.length → mlGo P W H r S ms i → ∃ i, MlEnd P W H r S ms i := by
    intro d
    induction d with
    | zero => intro i hi hg; exact ⟨i, ⟨by omega, hg, fun h => by omega⟩⟩
    | succ d ih =>
      intro i hi hg
      by_cases hc : mlC P W H r S ms i = 0
      · exact ih (i + 1) (by omega) (mlGo_succ hg hc)
      · exact ⟨i, ⟨by omega, hg, fun _ => hc⟩⟩
  exact key ms.length 0 (by omega) (fun j hj => absurd hj (Nat.not_lt_zero j))
theorem mv_sz_in (u : Option Addr) (n cu : Nat) (k : Int) (w : World) (k0 : (n : Int) ≤ k) (k1 : k ≤ 1048576) :
    Calls Try.prog 24 #[.slice u n cu, .int .i64 k] w fun e w' => e = .returned (.int .i64 (k - (n : Int))) ∧ w' = w := by
  have n0 : (0 : Int) ≤ (n : Int) := Int.natCast_nonneg _
  have t : decide (k - (n : Int) < 0) = false := decide_eq_false (by omega)
  go_enter Try.func24, Try.ntmps24
  go_wp2
  go_ret
  exact ⟨rfl, rfl⟩
structure Ms (w : World) (Ws Hs Wp Hp E bd Wr Hr cu ai de : Int) (us up : Option Addr) (ns cs np cp m cw cg b10 b11 b12 b14 gx gy g3 : Nat) (uw ug : Option Addr) (F LX LY FG : List Int) (M3 : List Mve) (X : World) : Prop where
  bel : Below w.heap.size w X
  v4 : vb X w.heap.size 42 [.int .i64 Ws, .int .i64 Hs, .slice us ns cs]
  v5 : vb X (w.heap.size + 1) 42 [.int .i64 Wp, .int .i64 Hp, .slice up np cp]
  v10 : vb X b10 31 [.int .i64 E, .int .i64 bd, .int .i64 Wr, .int .i64 Hr, .slice uw m cw, .int .i64 cu, .int .i64 ai, .int .i64 de]
  v11 : vb X b11 25 [.int .i64 Ws, .int .i64 Hs, .slice (some ⟨gx, 0, none⟩) ns ns]
  v12 : vb X b12 25 [.int .i64 Wp, .int .i64 Hp, .slice (some ⟨gy, 0, none⟩) np np]
  v14 : vb X b14 31 [.int .i64 E, .int .i64 bd, .int .i64 Wr, .int .i64 Hr, .slice ug m cg, .int .i64 cu, .int .i64 ai, .int .i64 de]
  rw : Row X (w.heap.size + 2) 3 1 (.slice uw m cw) m F
  rx : Row X (w.heap.size + 2) 3 1 (.slice (some ⟨gx, 0, none⟩) ns ns) ns LX
  ry : Row X (w.heap.size + 2) 3 1 (.slice (some ⟨gy, 0, none⟩) np np) np LY
  rg : Row X (w.heap.size + 2) 3 1 (.slice ug m cg) m FG
  m3 : vb X g3 36 (flat4 M3)
structure Mor (w : World) (b10 b11 b12 b14 gx gy g3 : Nat) (uw ug : Option Addr) : Prop where
  a : w.heap.size + 2 ≤ b10
  b : ∀ a, uw = some a → w.heap.size + 2 ≤ a.block ∧ a.block < gx ∧ a.block ≠ b10
  c : b10 < gx
  d : gx < b11
  e : b11 < gy
  f : gy < b12
  g : b12 < g3
  h : g3 < b14
  i : ∀ a, ug = some a → g3 < a.block ∧ a.block < b14
theorem Ms.next {w : World} {Ws Hs Wp Hp E bd Wr Hr cu ai de : Int} {us up : Option Addr} {ns cs np cp m cw cg b10 b11 b12 b14 gx gy g3 : Nat} {uw ug : Option Addr} {F LX LY FG : List Int} {M3 : List Mve} {X X' : World} (h : Ms w Ws Hs Wp Hp E bd Wr Hr cu ai de us up ns cs np cp m cw cg b10 b11 b12 b14 gx gy g3 uw ug F LX LY FG M3 X) (hb : Below X.heap.size X X') : Ms w Ws Hs Wp Hp E bd Wr Hr cu ai de us up ns cs np cp m cw cg b10 b11 b12 b14 gx gy g3 uw ug F LX LY FG M3 X' :=
  ⟨bc h.bel hb, h.v4.bel hb, h.v5.bel hb, h.v10.bel hb, h.v11.bel hb, h.v12.bel hb, h.v14.bel hb, h.rw.below hb, h.rx.below hb, h.ry.below hb, h.rg.below hb, h.m3.bel hb⟩
theorem Ms.markX {w : World} {Ws Hs Wp Hp E bd Wr Hr cu ai de : Int} {us up : Option Addr} {ns cs np cp m cw cg b10 b11 b12 b14 gx gy g3 : Nat} {uw ug : Option Addr} {F LX LY FG : List Int} {M3 : List Mve} {LX' : List Int} {X X' : World} (h : Ms w Ws Hs Wp Hp E bd Wr Hr cu ai de us up ns cs np cp m cw cg b10 b11 b12 b14 gx gy g3 uw ug F LX LY FG M3 X) (o : Mor w b10 b11 b12 b14 gx gy g3 uw ug) (hm : Mo (some ⟨gx, 0, none⟩) X X') (hr : Row X' (w.heap.size + 2) 3 1 (.slice (some ⟨gx, 0, none⟩) ns ns) ns LX') : Ms w Ws Hs Wp Hp E bd Wr Hr cu ai de us up ns cs np cp m cw cg b10 b11 b12 b14 gx gy g3 uw ug F LX' LY FG M3 X' := by
  have oa := o.a; have oc := o.c; have od := o.d; have oe := o.e; have of := o.f; have og := o.g; have oh := o.h
  have hs := h.v5.lt
  have hs2 := h.bel.size
  exact ⟨h.bel.trans (hm.bel (B := w.heap.size) (by omega) (fun a ha => by cases ha; show w.heap.size ≤ gx; omega)),
    h.v4.mo hm (fun a ha => by cases ha; show gx ≠ w.heap.size; omega),
    h.v5.mo hm (fun a ha => by cases ha; show gx ≠ w.heap.size + 1; omega),
    h.v10.mo hm (fun a ha => by cases ha; show gx ≠ b10; omega),
    h.v11.mo hm (fun a ha => by cases ha; show gx ≠ b11; omega),
    h.v12.mo hm (fun a ha => by cases ha; show gx ≠ b12; omega),
    h.v14.mo hm (fun a ha => by cases ha; show gx ≠ b14; omega),
    h.rw.mo hm (fun b hb a ha => by obtain ⟨a', e1, e2⟩ := own_u (v := .bool true) hb; cases ha; have ob := o.b a' e1;  show gx ≠ b; omega),
    hr,
    h.ry.mo hm (fun b hb a ha => by obtain ⟨a', e1, e2⟩ := own_u (v := .bool true) hb; cases ha; cases e1; have e3 : gy = b := e2; show gx ≠ b; omega),
    h.rg.mo hm (fun b hb a ha => by obtain ⟨a', e1, e2⟩ := own_u (v := .bool true) hb; cases ha; have oj := o.i a' e1;  show gx ≠ b; omega),
    h.m3.mo hm (fun a ha => by cases ha; show gx ≠ g3; omega)⟩
theorem Ms.markY {w : World} {Ws Hs Wp Hp E bd Wr Hr cu ai de : Int} {us up : Option Addr} {ns cs np cp m cw cg b10 b11 b12 b14 gx gy g3 : Nat} {uw ug : Option Addr} {F LX LY FG : List Int} {M3 : List Mve} {LY' : List Int} {X X' : World} (h : Ms w Ws Hs Wp Hp E bd Wr Hr cu ai de us up ns cs np cp m cw cg b10 b11 b12 b14 gx gy g3 uw ug F LX LY FG M3 X) (o : Mor w b10 b11 b12 b14 gx gy g3 uw ug) (hm : Mo (some ⟨gy, 0, none⟩) X X') (hr : Row X' (w.heap.size + 2) 3 1 (.slice (some ⟨gy, 0, none⟩) np np) np LY') : Ms w Ws Hs Wp Hp E bd Wr Hr cu ai de us up ns cs np cp m cw cg b10 b11 b12 b14 gx gy g3 uw ug F LX LY' FG M3 X' := by
  have oa := o.a; have oc := o.c; have od := o.d; have oe := o.e; have of := o.f; have og := o.g; have oh := o.h
  have hs := h.v5.lt
  have hs2 := h.bel.size
  exact ⟨h.bel.trans (hm.bel (B := w.heap.size) (by omega) (fun a ha => by cases ha; show w.heap.size ≤ gy; omega)),
    h.v4.mo hm (fun a ha => by cases ha; show gy ≠ w.heap.size; omega),
    h.v5.mo hm (fun a ha => by cases ha; show gy ≠ w.heap.size + 1; omega),
    h.v10.mo hm (fun a ha => by cases ha; show gy ≠ b10; omega),
    h.v11.mo hm (fun a ha => by cases ha; show gy ≠ b11; omega),
    h.v12.mo hm (fun a ha => by cases ha; show gy ≠ b12; omega),
    h.v14.mo hm (fun a ha => by cases ha; show gy ≠ b14; omega),
    h.rw.mo hm (fun b hb a ha => by obtain ⟨a', e1, e2⟩ := own_u (v := .bool true) hb; cases ha; have ob := o.b a' e1;  show gy ≠ b; omega),
    h.rx.mo hm (fun b hb a ha => by obtain ⟨a', e1, e2⟩ := own_u (v := .bool true) hb; cases ha; cases e1; have e3 : gx = b := e2; show gy ≠ b; omega),
    hr,
    h.rg.mo hm (fun b hb a ha => by obtain ⟨a', e1, e2⟩ := own_u (v := .bool true) hb; cases ha; have oj := o.i a' e1;  show gy ≠ b; omega),
    h.m3.mo hm (fun a ha => by cases ha; show gy ≠ g3; omega)⟩
theorem Ms.markM {w : World} {Ws Hs Wp Hp E bd Wr Hr cu ai de : Int} {us up : Option Addr} {ns cs np cp m cw cg b10 b11 b12 b14 gx gy g3 : Nat} {uw ug : Option Addr} {F LX LY FG : List Int} {M3 : List Mve} {M3' : List Mve} {X X' : World} (h : Ms w Ws Hs Wp Hp E bd Wr Hr cu ai de us up ns cs np cp m cw cg b10 b11 b12 b14 gx gy g3 uw ug F LX LY FG M3 X) (o : Mor w b10 b11 b12 b14 gx gy g3 uw ug) (hm : Mo (some ⟨g3, 0, none⟩) X X') (hr : vb X' g3 36 (flat4 M3')) : Ms w Ws Hs Wp Hp E bd Wr Hr cu ai de us up ns cs np cp m cw cg b10 b11 b12 b14 gx gy g3 uw ug F LX LY FG M3' X' := by
  have oa := o.a; have oc := o.c; have od := o.d; have oe := o.e; have of := o.f; have og := o.g; have oh := o.h
  have hs := h.v5.lt
  have hs2 := h.bel.size
  exact ⟨h.bel.trans (hm.bel (B := w.heap.size) (by omega) (fun a ha => by cases ha; show w.heap.size ≤ g3; omega)),
    h.v4.mo hm (fun a ha => by cases ha; show g3 ≠ w.heap.size; omega),
    h.v5.mo hm (fun a ha => by cases ha; show g3 ≠ w.heap.size + 1; omega),
    h.v10.mo hm (fun a ha => by cases ha; show g3 ≠ b10; omega),
    h.v11.mo hm (fun a ha => by cases ha; show g3 ≠ b11; omega),
    h.v12.mo hm (fun a ha => by cases ha; show g3 ≠ b12; omega),
    h.v14.mo hm (fun a ha => by cases ha; show g3 ≠ b14; omega),
    h.rw.mo hm (fun b hb a ha => by obtain ⟨a', e1, e2⟩ := own_u (v := .bool true) hb; cases ha; have ob := o.b a' e1;  show g3 ≠ b; omega),
    h.rx.mo hm (fun b hb a ha => by obtain ⟨a', e1, e2⟩ := own_u (v := .bool true) hb; cases ha; cases e1; have e3 : gx = b := e2; show g3 ≠ b; omega),
    h.ry.mo hm (fun b hb a ha => by obtain ⟨a', e1, e2⟩ := own_u (v := .bool true) hb; cases ha; cases e1; have e3 : gy = b := e2; show g3 ≠ b; omega),
    h.rg.mo hm (fun b hb a ha => by obtain ⟨a', e1, e2⟩ := own_u (v := .bool true) hb; cases ha; have oj := o.i a' e1;  show g3 ≠ b; omega),
    hr⟩
theorem Ms.markG {w : World} {Ws Hs Wp Hp E bd Wr Hr cu ai de : Int} {us up : Option Addr} {ns cs np cp m cw cg b10 b11 b12 b14 gx gy g3 : Nat} {uw ug : Option Addr} {F LX LY FG : List Int} {M3 : List Mve} {FG' : List Int} {X X' : World} (h : Ms w Ws Hs Wp Hp E bd Wr Hr cu ai de us up ns cs np cp m cw cg b10 b11 b12 b14 gx gy g3 uw ug F LX LY FG M3 X) (o : Mor w b10 b11 b12 b14 gx gy g3 uw ug) (hm : Mo ug X X') (hr : Row X' (w.heap.size + 2) 3 1 (.slice ug m cg) m FG') : Ms w Ws Hs Wp Hp E bd Wr Hr cu ai de us up ns cs np cp m cw cg b10 b11 b12 b14 gx gy g3 uw ug F LX LY FG' M3 X' := by
  have oa := o.a; have oc := o.c; have od := o.d; have oe := o.e; have of := o.f; have og := o.g; have oh := o.h
  have hs := h.v5.lt
  have hs2 := h.bel.size
  exact ⟨h.bel.trans (hm.bel (B := w.heap.size) (by omega) (fun a ha => by have oi := o.i a ha; omega)),
    h.v4.mo hm (fun a ha => by have oi := o.i a ha; omega),
    h.v5.mo hm (fun a ha => by have oi := o.i a ha; omega),
    h.v10.mo hm (fun a ha => by have oi := o.i a ha; omega),
    h.v11.mo hm (fun a ha => by have oi := o.i a ha; omega),
    h.v12.mo hm (fun a ha => by have oi := o.i a ha; omega),
    h.v14.mo hm (fun a ha => by have oi := o.i a ha; omega),
    h.rw.mo hm (fun b hb a ha => by obtain ⟨a', e1, e2⟩ := own_u (v := .bool true) hb; have oi := o.i a ha; have ob := o.b a' e1;  omega),
    h.rx.mo hm (fun b hb a ha => by obtain ⟨a', e1, e2⟩ := own_u (v := .bool true) hb; have oi := o.i a ha; cases e1; have e3 : gx = b := e2; omega),
    h.ry.mo hm (fun b hb a ha => by obtain ⟨a', e1, e2⟩ := own_u (v := .bool true) hb; have oi := o.i a ha; cases e1; have e3 : gy = b := e2; omega),
    hr,
    h.m3.mo hm (fun a ha => by have oi := o.i a ha; omega)⟩
set_option maxHeartbeats 8000000 in
set_option maxRecDepth 100000 in
theorem fnExactMill_core (Ws Hs Wp Hp R E bd Wr Hr cu ai de : Int) (us up um : Option Addr) (ps pos ns cs pp pop np cp pm pom mm cm m : Nat) (S T F : List Int) (ms : List Mve) (w : World)
    (hbs : ns ≤ 1048576) (hls : S.length = ns) (hus : Its w us ps pos S) (hbp : np ≤ 1048576) (hlp : T.length = np) (hup : Its w up pp pop T) (hbm : ns + np + mm ≤ 1048576) (hlm : ms.length = mm) (hum : Mvs w um pm pom ms) (hm : m ≤ 576) (hF : F.length = m)
    (HM : Hid (∀ (g1 g2 g3 : Nat) (X : World), iblk X g1 3 S → iblk X g2 3 T → vb X g3 36 (flat4 ms) → Calls Try.prog 12 #[.agg #[.int .i64 Ws, .int .i64 Hs, .slice (some ⟨g1, 0, none⟩) ns ns], .agg #[.int .i64 Wp, .int .i64 Hp, .slice (some ⟨g2, 0, none⟩) np np], .int .i64 R, .slice (some ⟨g3, 0, none⟩) mm mm] X fun e w' => (∃ uv cv, e = .returned (.agg #[.int .i64 E, .int .i64 bd, .int .i64 Wr, .int .i64 Hr, .slice uv m cv, .int .i64 cu, .int .i64 ai, .int .i64 de]) ∧ Row w' X.heap.size 3 1 (.slice uv m cv) m F) ∧ Below X.heap.size X w')) (HP : Hid (∀ (g1 g2 g3 : Nat) (X : World), iblk X g1 3 S → iblk X g2 3 T → vb X g3 36 (flat4 ms) → Calls Try.prog 11 #[.agg #[.int .i64 Ws, .int .i64 Hs, .slice (some ⟨g1, 0, none⟩) ns ns], .agg #[.int .i64 Wp, .int .i64 Hp, .slice (some ⟨g2, 0, none⟩) np np], .int .i64 R, .slice (some ⟨g3, 0, none⟩) mm mm] X fun e w' => (∃ uv cv, e = .returned (.agg #[.int .i64 E, .int .i64 bd, .int .i64 Wr, .int .i64 Hr, .slice uv m cv, .int .i64 cu, .int .i64 ai, .int .i64 de]) ∧ Row w' X.heap.size 3 1 (.slice uv m cv) m F) ∧ Below X.heap.size X w')) :
    Calls Try.prog 6 #[fldV Ws Hs us ns cs, fldV Wp Hp up np cp, .int .i64 R, .slice um mm cm] w fun e w' => e = .returned (.bool true) ∧ Below w.heap.size w w' := by
  have HB0 := hide (ba (ba (Below.refl w.heap.size w) (.cells #[.int .i64 Ws, .int .i64 Hs, .slice us ns cs] 42)) (.cells #[.int .i64 Wp, .int .i64 Hp, .slice up np cp] 42))
  have HV4 := hide (vb_new1 w 42 [.int .i64 Ws, .int .i64 Hs, .slice us ns cs] (.cells #[.int .i64 Wp, .int .i64 Hp, .slice up np cp] 42))
  have HV5 := hide (vb_new2 w 42 [.int .i64 Wp, .int .i64 Hp, .slice up np cp] (.cells #[.int .i64 Ws, .int .i64 Hs, .slice us ns cs] 42))
  have hS0 : w.heap.size + 2 ≤ ((w.alloc (.cells #[.int .i64 Ws, .int .i64 Hs, .slice us ns cs] 42)).alloc (.cells #[.int .i64 Wp, .int .i64 Hp, .slice up np cp] 42)).heap.size := by simp
  have HZ1 := hide (fun X => fd_sz_in Ws Hs us ns cs 1048576 X (by omega) (by omega))
  have HZ2 := hide (fun X => fd_sz_in Wp Hp up np cp (1048576 - (ns : Int)) X (by omega) (by omega))
  have HZ3 := hide (fun X => mv_sz_in um mm cm (1048576 - (ns : Int) - (np : Int)) X (by omega) (by omega))
  have t1 : decide ((1048576 : Int) - (ns : Int) < 0) = false := decide_eq_false (by omega)
  have t2 : decide ((1048576 : Int) - (ns : Int) - (np : Int) < 0) = false := decide_eq_false (by omega)
  have t3 : decide ((1048576 : Int) - (ns : Int) - (np : Int) - (mm : Int) < 0) = false := decide_eq_false (by omega)
  have HTS := hide (fun X (hX : Below w.heap.size w X) => fd_to Ws Hs us ps pos ns cs S X hls hbs (hus.bel hX))
  have HTP := hide (fun X (hX : Below w.heap.size w X) => fd_to Wp Hp up pp pop np cp T X hlp hbp (hup.bel hX))
  have HTM := hide (fun X (hX : Below w.heap.size w X) => mv_to um pm pom mm cm ms X hlm (by omega) (hum.bel hX))
  have HQ := hide (fun (ua ub : Option Addr) (ca cb : Nat) (X : World) (h1 : Its X ua (bo ua) 0 F) (h2 : Its X ub (bo ub) 0 F) => md_same E bd Wr Hr cu ai de ua ub (bo ua) 0 (bo ub) 0 m ca cb F X hF (by omega) h1 h2)
  have HES := hide (fun (g g' : Nat) (X : World) (h1 : Its X (some ⟨g, 0, none⟩) g 0 S) (h2 : Its X (some ⟨g', 0, none⟩) g' 0 S) => fd_same Ws Hs (some ⟨g, 0, none⟩) (some ⟨g', 0, none⟩) g 0 g' 0 ns ns ns S X hls hbs h1 h2)
  have HEP := hide (fun (g g' : Nat) (X : World) (h1 : Its X (some ⟨g, 0, none⟩) g 0 T) (h2 : Its X (some ⟨g', 0, none⟩) g' 0 T) => fd_same Wp Hp (some ⟨g, 0, none⟩) (some ⟨g', 0, none⟩) g 0 g' 0 np np np T X hlp hbp h1 h2)
  have HEM := hide (fun (g g' : Nat) (X : World) (h1 : vb X g 36 (flat4 ms)) (h2 : vb X g' 36 (flat4 ms)) => mv_same (some ⟨g, 0, none⟩) (some ⟨g', 0, none⟩) g 0 g' 0 mm mm mm ms X hlm (by omega) h1.mvs h2.mvs)
  have HKS := hide (fun (g : Nat) (X : World) (hr : Row X (w.heap.size + 2) 3 1 (.slice (some ⟨g, 0, none⟩) ns ns) ns S) => fd_markR Ws Hs (some ⟨g, 0, none⟩) (w.heap.size + 2) ns ns S 1 X hbs (by omega) (by omega) hr)
  have HKP := hide (fun (g : Nat) (X : World) (hr : Row X (w.heap.size + 2) 3 1 (.slice (some ⟨g, 0, none⟩) np np) np T) => fd_markR Wp Hp (some ⟨g, 0, none⟩) (w.heap.size + 2) np np T (1 + (ns : Int)) X hbp (by omega) (by omega) hr)
  have HKM := hide (fun (g : Nat) (X : World) (h1 : vb X g 36 (flat4 ms)) => mv_mark g mm mm ms (1 + (ns : Int) + (np : Int)) X hlm (by omega) (by omega) (by omega) h1)
  have HKG := hide (fun (ug : Option Addr) (cg : Nat) (X : World) (hr : Row X (w.heap.size + 2) 3 1 (.slice ug m cg) m F) => md_mark E bd Wr Hr cu ai de ug (w.heap.size + 2) m cg F 1 X (by omega) (by omega) (by omega) hr)
  have HHG := hide (fun (ug : Option Addr) (cg : Nat) (X : World) (hr : Its X ug (bo ug) 0 (marks 1 m)) => md_held E bd Wr Hr cu ai de ug (bo ug) 0 m cg 1 X (by omega) (by omega) (by omega) hr)
  have HLS := hide hls
  have HLP := hide hlp
  have t4 : decide ((1 : Int) + (ns : Int) + (np : Int) + 4 * (mm : Int) < 0) = false := decide_eq_false (by omega)
  have t5 : decide ((1 : Int) + (m : Int) < 0) = false := decide_eq_false (by omega)
  have t6 : ((1 : Int) + (m : Int) != 1 + (m : Int)) = false := by simp
  unfold fldV at *
  clear hus hup hum hls hlp hlm hF
  go_enter Try.func6, Try.ntmps6
  go_wp2_with fail
  generalize (w.alloc (.cells #[.int .i64 Ws, .int .i64 Hs, .slice us ns cs] 42)).alloc (.cells #[.int .i64 Wp, .int .i64 Hp, .slice up np cp] 42) = Wa at *
  refine (unhide HZ1 _).mono ?_
  rintro e W0 ⟨rfl, hb0⟩
  have HV4a := hide ((unhide HV4).bel hb0)
  have HV5a := hide ((unhide HV5).bel hb0)
  have HBa := hide (bc (unhide HB0) hb0)
  have HSa : Hid (w.heap.size + 2 ≤ W0.heap.size) := hide (Nat.le_trans hS0 hb0.size)
  clear hb0 HV4 HV5 HB0 hS0
  have k0 := (unhide HV5a).cell (m := 0) rfl
  have k1 := (unhide HV5a).cell (m := 1) rfl
  have k2 := (unhide HV5a).cell (m := 2) rfl
  go_wp2_with fail
  refine (unhide HZ2 _).mono ?_
  rintro e W1 ⟨rfl, hb1⟩
  have HV4b := hide ((unhide HV4a).bel hb1)
  have HV5b := hide ((unhide HV5a).bel hb1)
  have HBb := hide (bc (unhide HBa) hb1)
  have HSb : Hid (w.heap.size + 2 ≤ W1.heap.size) := hide (Nat.le_trans (unhide HSa) hb1.size)
  clear hb1 HV4a HV5a HBa HSa k0 k1 k2
  go_wp2_with fail
  refine (unhide HZ3 _).mono ?_
  rintro e W2 ⟨rfl, rfl⟩
  go_wp2_with fail
  refine Go.Code.wp_mono (Only.to (fun _ _ h => h)) (ml11 HV4b HV5b (hide fun X hX => (unhide HTS) X (bc (unhide HBb) hX)) (hide fun X hX => (unhide HTP) X (bc (unhide HBb) hX)) (hide fun X hX => (unhide HTM) X (bc (unhide HBb) hX)) HM (fun y34 y35 y36 y37 y38 y39 y40 y41 uw cw b10 W3 hb3 hrw h10 hn10 hv10 => ?_))
  have HV4c := hide ((unhide HV4b).bel hb3)
  have HV5c := hide ((unhide HV5b).bel hb3)
  have HBc := hide (bc (unhide HBb) hb3)
  have HRW := hide (hrw.mono (unhide HSb))
  have HV10 := hide hv10
  have HO1 : Hid (w.heap.size + 2 ≤ b10 ∧ (∀ a, uw = some a → w.heap.size + 2 ≤ a.block ∧ a.block < W3.heap.size ∧ a.block ≠ b10) ∧ b10 < W3.heap.size) := hide ⟨Nat.le_trans (unhide HSb) h10, fun a ha => by
    have h1 := World.ownsRow.lt hrw a.block (by rw [ha]; rfl)
    have h2 := unhide HSb
    exact ⟨by omega, h1.2, hn10 a ha⟩, hv10.lt⟩
  clear hb3 hrw h10 hn10 hv10 HV4b HV5b HBb HSb HM
  have k0 := (unhide HV4c).cell (m := 0) rfl
  have k1 := (unhide HV4c).cell (m := 1) rfl
  have k2 := (unhide HV4c).cell (m := 2) rfl
  go_wp2_with fail
  refine (unhide HTS _ (unhide HBc)).mono ?_
  rintro e W4 ⟨⟨gx, rfl, hgx, hkx⟩, hb4⟩
  have hA : Below W4.heap.size W4 (W4.alloc (.cells #[.int .i64 Ws, .int .i64 Hs, .slice (some ⟨gx, 0, none⟩) ns ns] 25)) := ba (Below.refl _ _) _
  have hbA := bc hb4 hA
  have HV4d := hide ((unhide HV4c).bel hbA)
  have HV5d := hide ((unhide HV5c).bel hbA)
  have HV10d := hide ((unhide HV10).bel hbA)
  have HRWd := hide ((unhide HRW).below hbA)
  have HBd := hide (bc (unhide HBc) hbA)
  have HKX := hide (hkx.bel hA)
  have HV11 := hide (vb_new W4 25 [.int .i64 Ws, .int .i64 Hs, .slice (some ⟨gx, 0, none⟩) ns ns] W4.heap.size rfl)
  have HO2 : Hid (W3.heap.size ≤ gx ∧ gx < W4.heap.size) := hide ⟨hgx, hkx.lt⟩
  have HS4 : Hid (W4.heap.size < (W4.alloc (.cells #[.int .i64 Ws, .int .i64 Hs, .slice (some ⟨gx, 0, none⟩) ns ns] 25)).heap.size) := hide (by simp)
  clear hgx hkx hb4 hA hbA k0 k1 k2 HV4c HV5c HV10 HRW HBc
  go_upto_region 13 with fail
  generalize W4.alloc (.cells #[.int .i64 Ws, .int .i64 Hs, .slice (some ⟨gx, 0, none⟩) ns ns] 25) = W5 at *
  generalize W4.heap.size = b11 at *
  have k0 := (unhide HV5d).cell (m := 0) rfl
  have k1 := (unhide HV5d).cell (m := 1) rfl
  have k2 := (unhide HV5d).cell (m := 2) rfl
  go_wp2_with fail
  refine (unhide HTP _ (unhide HBd)).mono ?_
  rintro e W6 ⟨⟨gy, rfl, hgy, hky⟩, hb6⟩
  have hA : Below W6.heap.size W6 (W6.alloc (.cells #[.int .i64 Wp, .int .i64 Hp, .slice (some ⟨gy, 0, none⟩) np np] 25)) := ba (Below.refl _ _) _
  have hbA := bc hb6 hA
  have HV4e := hide ((unhide HV4d).bel hbA)
  have HV5e := hide ((unhide HV5d).bel hbA)
  have HV10e := hide ((unhide HV10d).bel hbA)
  have HRWe := hide ((unhide HRWd).below hbA)
  have HBe := hide (bc (unhide HBd) hbA)
  have HKXe := hide ((unhide HKX).bel hbA)
  have HV11e := hide ((unhide HV11).bel hbA)
  have HKY := hide (hky.bel hA)
  have HV12 := hide (vb_new W6 25 [.int .i64 Wp, .int .i64 Hp, .slice (some ⟨gy, 0, none⟩) np np] W6.heap.size rfl)
  have HO3 : Hid (b11 < gy ∧ gy < W6.heap.size) := hide ⟨Nat.lt_of_lt_of_le (unhide HS4) hgy, hky.lt⟩
  have HS6 : Hid (W6.heap.size < (W6.alloc (.cells #[.int .i64 Wp, .int .i64 Hp, .slice (some ⟨gy, 0, none⟩) np np] 25)).heap.size) := hide (by simp)
  clear hgy hky hb6 hA hbA k0 k1 k2 HV4d HV5d HV10d HRWd HBd HKX HV11 HS4
  go_upto_region 14 with fail
  generalize W6.alloc (.cells #[.int .i64 Wp, .int .i64 Hp, .slice (some ⟨gy, 0, none⟩) np np] 25) = W7 at *
  generalize W6.heap.size = b12 at *
  go_wp2_with fail
  refine (unhide HTM _ (unhide HBe)).mono ?_
  rintro e W8 ⟨⟨g3, rfl, hg3, hk3⟩, hb8⟩
  have HV4f := hide ((unhide HV4e).bel hb8)
  have HV5f := hide ((unhide HV5e).bel hb8)
  have HV10f := hide ((unhide HV10e).bel hb8)
  have HRWf := hide ((unhide HRWe).below hb8)
  have HBf := hide (bc (unhide HBe) hb8)
  have HKXf := hide ((unhide HKXe).bel hb8)
  have HKYf := hide ((unhide HKY).bel hb8)
  have HV11f := hide ((unhide HV11e).bel hb8)
  have HV12f := hide ((unhide HV12).bel hb8)
  have HK3 := hide hk3
  have HO4 : Hid (b12 < g3) := hide (Nat.lt_of_lt_of_le (unhide HS6) hg3)
  clear hg3 hk3 hb8 HV4e HV5e HV10e HRWe HBe HKXe HKY HV11e HV12 HS6
  have k0 := (unhide HV11f).cell (m := 0) rfl
  have k1 := (unhide HV11f).cell (m := 1) rfl
  have k2 := (unhide HV11f).cell (m := 2) rfl
  have j0 := (unhide HV12f).cell (m := 0) rfl
  have j1 := (unhide HV12f).cell (m := 1) rfl
  have j2 := (unhide HV12f).cell (m := 2) rfl
  go_wp2_with fail
  refine (unhide HP _ _ _ _ (unhide HKXf) (unhide HKYf) (unhide HK3)).mono ?_
  rintro e W9 ⟨⟨ug, cg, rfl, hrg⟩, hb9⟩
  have hA : Below W9.heap.size W9 (W9.alloc (.cells #[.int .i64 E, .int .i64 bd, .int .i64 Wr, .int .i64 Hr, .slice ug m cg, .int .i64 cu, .int .i64 ai, .int .i64 de] 31)) := ba (Below.refl _ _) _
  have hbA := bc hb9 hA
  have HFO : Hid (Mor w b10 b11 b12 W9.heap.size gx gy g3 uw ug) := hide (by
    have o1 := unhide HO1
    have o2 := unhide HO2
    have o3 := unhide HO3
    have o4 := unhide HO4
    have l3 := (unhide HK3).lt
    have sz := hb9.size
    refine ⟨o1.1, fun a ha => ?_, by omega, by omega, by omega, by omega, by omega, by omega, fun a ha => ?_⟩
    · have := o1.2.1 a ha
      omega
    · have := World.ownsRow.lt hrg a.block (by rw [ha]; rfl)
      omega)
  have HFS : Hid (Ms w Ws Hs Wp Hp E bd Wr Hr cu ai de us up ns cs np cp m cw cg b10 b11 b12 W9.heap.size gx gy g3 uw ug F S T F ms (W9.alloc (.cells #[.int .i64 E, .int .i64 bd, .int .i64 Wr, .int .i64 Hr, .slice ug m cg, .int .i64 cu, .int .i64 ai, .int .i64 de] 31))) := hide (by
    have o1 := unhide HO1
    have o2 := unhide HO2
    have o3 := unhide HO3
    have o4 := unhide HO4
    have l3 := (unhide HK3).lt
    exact ⟨bc (unhide HBf) hbA, (unhide HV4f).bel hbA, (unhide HV5f).bel hbA, (unhide HV10f).bel hbA, (unhide HV11f).bel hbA, (unhide HV12f).bel hbA, vb_new W9 31 _ _ rfl, (unhide HRWf).below hbA, ((unhide HKXf).bel hbA).row (by omega) (unhide HLS) hbs, ((unhide HKYf).bel hbA).row (by omega) (unhide HLP) hbp, (hrg.below hA).mono (by omega), (unhide HK3).bel hbA⟩)
  clear hrg hb9 hA hbA k0 k1 k2 j0 j1 j2 HV4f HV5f HV10f HRWf HBf HKXf HKYf HV11f HV12f HK3 HO1 HO2 HO3 HO4
  go_upto_region 16 with fail
  generalize W9.alloc (.cells #[.int .i64 E, .int .i64 bd, .int .i64 Wr, .int .i64 Hr, .slice ug m cg, .int .i64 cu, .int .i64 ai, .int .i64 de] 31) = Wb at *
  generalize W9.heap.size = b14 at *
  have p0 := (unhide HFS).v14.cell (m := 0) rfl
  have p1 := (unhide HFS).v14.cell (m := 1) rfl
  have p2 := (unhide HFS).v14.cell (m := 2) rfl
  have p3 := (unhide HFS).v14.cell (m := 3) rfl
  have p4 := (unhide HFS).v14.cell (m := 4) rfl
  have p5 := (unhide HFS).v14.cell (m := 5) rfl
  have p6 := (unhide HFS).v14.cell (m := 6) rfl
  have p7 := (unhide HFS).v14.cell (m := 7) rfl
  have q0 := (unhide HFS).v10.cell (m := 0) rfl
  have q1 := (unhide HFS).v10.cell (m := 1) rfl
  have q2 := (unhide HFS).v10.cell (m := 2) rfl
  have q3 := (unhide HFS).v10.cell (m := 3) rfl
  have q4 := (unhide HFS).v10.cell (m := 4) rfl
  have q5 := (unhide HFS).v10.cell (m := 5) rfl
  have q6 := (unhide HFS).v10.cell (m := 6) rfl
  have q7 := (unhide HFS).v10.cell (m := 7) rfl
  go_wp2_with fail
  refine (unhide HQ _ _ _ _ _ (unhide HFS).rg.it (unhide HFS).rw.it).mono ?_
  rintro e Wc ⟨rfl, hbc⟩
  have HFc := hide ((unhide HFS).next hbc)
  clear hbc p0 p1 p2 p3 p4 p5 p6 p7 q0 q1 q2 q3 q4 q5 q6 q7 HFS
  have k0 := (unhide HFc).v4.cell (m := 0) rfl
  have k1 := (unhide HFc).v4.cell (m := 1) rfl
  have k2 := (unhide HFc).v4.cell (m := 2) rfl
  have j0 := (unhide HFc).v11.cell (m := 0) rfl
  have j1 := (unhide HFc).v11.cell (m := 1) rfl
  have j2 := (unhide HFc).v11.cell (m := 2) rfl
  have HNX : Hid (∀ X, Below Wc.heap.size Wc X → Its X (some ⟨gx, 0, none⟩) gx 0 S) := hide (fun X hX => ((unhide HFc).next hX).rx.it)
  have HIB : Hid (∀ X g, iblk X g 3 S → Its X (some ⟨g, 0, none⟩) g 0 S) := hide (fun X g h => h.its2)
  go_upto_region 18 with fail
  go_cut [61] (fun sx wx => sx = .bool false ∧ Below Wc.heap.size Wc wx)
  case first =>
    go_region_held3 (fun wx => wx.cell? ⟨w.heap.size, 0, none⟩ = some (.int .i64 Ws) ∧ wx.cell? ⟨w.heap.size, 1, none⟩ = some (.int .i64 Hs) ∧ wx.cell? ⟨w.heap.size, 2, none⟩ = some (.slice us ns cs) ∧ wx.cell? ⟨b11, 0, none⟩ = some (.int .i64 Ws) ∧ wx.cell? ⟨b11, 1, none⟩ = some (.int .i64 Hs) ∧ wx.cell? ⟨b11, 2, none⟩ = some (.slice (some ⟨gx, 0, none⟩) ns ns))
      (simp (maxDischargeDepth := 12) [go_sem, le1, lt1, *])
      (first
      | (go_at_call 21; with_reducible refine (unhide HTS _ (by repeat (first | exact (unhide HFc).bel | refine Below.drew ?_))).mono ?_; rintro e w' ⟨⟨g8, rfl, hg8, hk8⟩, hb⟩; have HBx := hide (show Below Wc.heap.size Wc w' from bc (by repeat (first | exact Below.refl _ _ | refine Below.drew ?_)) hb); have HK8 := hide (unhide HIB _ _ hk8); have HK8' := hide (unhide HNX _ (unhide HBx)); have p0 := keep1 hb (b := w.heap.size) (o := 0) (v := .int .i64 Ws) (by simp (maxDischargeDepth := 12) [go_sem, le1, lt1, *]); have p1 := keep1 hb (b := w.heap.size) (o := 1) (v := .int .i64 Hs) (by simp (maxDischargeDepth := 12) [go_sem, le1, lt1, *]); have p2 := keep1 hb (b := w.heap.size) (o := 2) (v := .slice us ns cs) (by simp (maxDischargeDepth := 12) [go_sem, le1, lt1, *]); have p3 := keep1 hb (b := b11) (o := 0) (v := .int .i64 Ws) (by simp (maxDischargeDepth := 12) [go_sem, le1, lt1, *]); have p4 := keep1 hb (b := b11) (o := 1) (v := .int .i64 Hs) (by simp (maxDischargeDepth := 12) [go_sem, le1, lt1, *]); have p5 := keep1 hb (b := b11) (o := 2) (v := .slice (some ⟨gx, 0, none⟩) ns ns) (by simp (maxDischargeDepth := 12) [go_sem, le1, lt1, *]); clear hb hg8 hk8)
      | (go_at_call 23; with_reducible refine (unhide HES _ _ _ (unhide HK8') (unhide HK8)).mono ?_; rintro e w' ⟨rfl, hb⟩; have HBy := hide (show Below Wc.heap.size Wc w' from bc (by repeat (first | exact unhide HBx | refine Below.drew ?_)) hb); have q0 := keep1 hb (b := w.heap.size) (o := 0) (v := .int .i64 Ws) (by simp (maxDischargeDepth := 12) [go_sem, le1, lt1, *]); have q1 := keep1 hb (b := w.heap.size) (o := 1) (v := .int .i64 Hs) (by simp (maxDischargeDepth := 12) [go_sem, le1, lt1, *]); have q2 := keep1 hb (b := w.heap.size) (o := 2) (v := .slice us ns cs) (by simp (maxDischargeDepth := 12) [go_sem, le1, lt1, *]); have q3 := keep1 hb (b := b11) (o := 0) (v := .int .i64 Ws) (by simp (maxDischargeDepth := 12) [go_sem, le1, lt1, *]); have q4 := keep1 hb (b := b11) (o := 1) (v := .int .i64 Hs) (by simp (maxDischargeDepth := 12) [go_sem, le1, lt1, *]); have q5 := keep1 hb (b := b11) (o := 2) (v := .slice (some ⟨gx, 0, none⟩) ns ns) (by simp (maxDischargeDepth := 12) [go_sem, le1, lt1, *]); clear hb))
    all_goals
      go_wp2_with fail
      go_meet
      case rel => exact ⟨rfl, (by repeat (first | exact unhide HBy | refine Below.drew ?_))⟩
  case rest =>
  obtain ⟨rfl, hw⟩ := hcut
  have HFd := hide ((unhide HFc).next hw)
  clear hw k0 k1 k2 j0 j1 j2 HFc HNX HIB
  generalize wc = Wd at *
  go_wp2_with fail
  have k0 := (unhide HFd).v5.cell (m := 0) rfl
  have k1 := (unhide HFd).v5.cell (m := 1) rfl
  have k2 := (unhide HFd).v5.cell (m := 2) rfl
  have j0 := (unhide HFd).v12.cell (m := 0) rfl
  have j1 := (unhide HFd).v12.cell (m := 1) rfl
  have j2 := (unhide HFd).v12.cell (m := 2) rfl
  have HNX : Hid (∀ X, Below Wd.heap.size Wd X → Its X (some ⟨gy, 0, none⟩) gy 0 T) := hide (fun X hX => ((unhide HFd).next hX).ry.it)
  have HIB : Hid (∀ X g, iblk X g 3 T → Its X (some ⟨g, 0, none⟩) g 0 T) := hide (fun X g h => h.its2)
  go_upto_region 20 with fail
  go_cut [66] (fun sx wx => sx = .bool false ∧ Below Wd.heap.size Wd wx)
  case first =>
    go_region_held3 (fun wx => wx.cell? ⟨(w.heap.size + 1), 0, none⟩ = some (.int .i64 Wp) ∧ wx.cell? ⟨(w.heap.size + 1), 1, none⟩ = some (.int .i64 Hp) ∧ wx.cell? ⟨(w.heap.size + 1), 2, none⟩ = some (.slice up np cp) ∧ wx.cell? ⟨b12, 0, none⟩ = some (.int .i64 Wp) ∧ wx.cell? ⟨b12, 1, none⟩ = some (.int .i64 Hp) ∧ wx.cell? ⟨b12, 2, none⟩ = some (.slice (some ⟨gy, 0, none⟩) np np))
      (simp (maxDischargeDepth := 12) [go_sem, le1, lt1, *])
      (first
      | (go_at_call 21; with_reducible refine (unhide HTP _ (by repeat (first | exact (unhide HFd).bel | refine Below.drew ?_))).mono ?_; rintro e w' ⟨⟨g8, rfl, hg8, hk8⟩, hb⟩; have HBx := hide (show Below Wd.heap.size Wd w' from bc (by repeat (first | exact Below.refl _ _ | refine Below.drew ?_)) hb); have HK8 := hide (unhide HIB _ _ hk8); have HK8' := hide (unhide HNX _ (unhide HBx)); have p0 := keep1 hb (b := (w.heap.size + 1)) (o := 0) (v := .int .i64 Wp) (by simp (maxDischargeDepth := 12) [go_sem, le1, lt1, *]); have p1 := keep1 hb (b := (w.heap.size + 1)) (o := 1) (v := .int .i64 Hp) (by simp (maxDischargeDepth := 12) [go_sem, le1, lt1, *]); have p2 := keep1 hb (b := (w.heap.size + 1)) (o := 2) (v := .slice up np cp) (by simp (maxDischargeDepth := 12) [go_sem, le1, lt1, *]); have p3 := keep1 hb (b := b12) (o := 0) (v := .int .i64 Wp) (by simp (maxDischargeDepth := 12) [go_sem, le1, lt1, *]); have p4 := keep1 hb (b := b12) (o := 1) (v := .int .i64 Hp) (by simp (maxDischargeDepth := 12) [go_sem, le1, lt1, *]); have p5 := keep1 hb (b := b12) (o := 2) (v := .slice (some ⟨gy, 0, none⟩) np np) (by simp (maxDischargeDepth := 12) [go_sem, le1, lt1, *]); clear hb hg8 hk8)
      | (go_at_call 23; with_reducible refine (unhide HEP _ _ _ (unhide HK8') (unhide HK8)).mono ?_; rintro e w' ⟨rfl, hb⟩; have HBy := hide (show Below Wd.heap.size Wd w' from bc (by repeat (first | exact unhide HBx | refine Below.drew ?_)) hb); have q0 := keep1 hb (b := (w.heap.size + 1)) (o := 0) (v := .int .i64 Wp) (by simp (maxDischargeDepth := 12) [go_sem, le1, lt1, *]); have q1 := keep1 hb (b := (w.heap.size + 1)) (o := 1) (v := .int .i64 Hp) (by simp (maxDischargeDepth := 12) [go_sem, le1, lt1, *]); have q2 := keep1 hb (b := (w.heap.size + 1)) (o := 2) (v := .slice up np cp) (by simp (maxDischargeDepth := 12) [go_sem, le1, lt1, *]); have q3 := keep1 hb (b := b12) (o := 0) (v := .int .i64 Wp) (by simp (maxDischargeDepth := 12) [go_sem, le1, lt1, *]); have q4 := keep1 hb (b := b12) (o := 1) (v := .int .i64 Hp) (by simp (maxDischargeDepth := 12) [go_sem, le1, lt1, *]); have q5 := keep1 hb (b := b12) (o := 2) (v := .slice (some ⟨gy, 0, none⟩) np np) (by simp (maxDischargeDepth := 12) [go_sem, le1, lt1, *]); clear hb))
    all_goals
      go_wp2_with fail
      go_meet
      case rel => exact ⟨rfl, (by repeat (first | exact unhide HBy | refine Below.drew ?_))⟩
  case rest =>
  obtain ⟨rfl, hw⟩ := hcut
  have HFe := hide ((unhide HFd).next hw)
  clear hw k0 k1 k2 j0 j1 j2 HFd HNX HIB
  generalize wc = We at *
  go_wp2_with fail
  refine (unhide HTM _ (unhide HFe).bel).mono ?_
  rintro e Wf ⟨⟨g4, rfl, hg4, hk4⟩, hbf⟩
  have HFf := hide ((unhide HFe).next hbf)
  have HK4 := hide hk4
  clear hg4 hk4 hbf HFe
  go_wp2_with fail
  refine (unhide HEM _ _ _ (unhide HFf).m3 (unhide HK4)).mono ?_
  rintro e Wg ⟨rfl, hbg⟩
  have HFg := hide ((unhide HFf).next hbg)
  clear hbg HFf HK4
  have k0 := (unhide HFg).v11.cell (m := 0) rfl
  have k1 := (unhide HFg).v11.cell (m := 1) rfl
  have k2 := (unhide HFg).v11.cell (m := 2) rfl
  go_wp2_with fail
  refine (unhide HKS _ _ (unhide HFg).rx).mono ?_
  rintro e Wh ⟨rfl, hro, hmo⟩
  have HFh := hide ((unhide HFg).markX (unhide HFO) hmo hro)
  clear hro hmo k0 k1 k2 HFg
  have k0 := (unhide HFh).v12.cell (m := 0) rfl
  have k1 := (unhide HFh).v12.cell (m := 1) rfl
  have k2 := (unhide HFh).v12.cell (m := 2) rfl
  go_wp2_with fail
  refine (unhide HKP _ _ (unhide HFh).ry).mono ?_
  rintro e Wi ⟨rfl, hro, hmo⟩
  have HFi := hide ((unhide HFh).markY (unhide HFO) hmo hro)
  clear hro hmo k0 k1 k2 HFh
  go_wp2_with fail
  refine (unhide HKM _ _ (unhide HFi).m3).mono ?_
  rintro e Wj ⟨rfl, hro, hmo⟩
  have HFj := hide ((unhide HFi).markM (unhide HFO) hmo hro)
  clear hro hmo HFi
  have p0 := (unhide HFj).v14.cell (m := 0) rfl
  have p1 := (unhide HFj).v14.cell (m := 1) rfl
  have p2 := (unhide HFj).v14.cell (m := 2) rfl
  have p3 := (unhide HFj).v14.cell (m := 3) rfl
  have p4 := (unhide HFj).v14.cell (m := 4) rfl
  have p5 := (unhide HFj).v14.cell (m := 5) rfl
  have p6 := (unhide HFj).v14.cell (m := 6) rfl
  have p7 := (unhide HFj).v14.cell (m := 7) rfl
  have q0 := (unhide HFj).v10.cell (m := 0) rfl
  have q1 := (unhide HFj).v10.cell (m := 1) rfl
  have q2 := (unhide HFj).v10.cell (m := 2) rfl
  have q3 := (unhide HFj).v10.cell (m := 3) rfl
  have q4 := (unhide HFj).v10.cell (m := 4) rfl
  have q5 := (unhide HFj).v10.cell (m := 5) rfl
  have q6 := (unhide HFj).v10.cell (m := 6) rfl
  have q7 := (unhide HFj).v10.cell (m := 7) rfl
  go_wp2_with fail
  refine (unhide HQ _ _ _ _ _ (unhide HFj).rg.it (unhide HFj).rw.it).mono ?_
  rintro e Wk ⟨rfl, hbk⟩
  have HFk := hide ((unhide HFj).next hbk)
  clear hbk p0 p1 p2 p3 p4 p5 p6 p7 q0 q1 q2 q3 q4 q5 q6 q7 HFj
  have p0 := (unhide HFk).v14.cell (m := 0) rfl
  have p1 := (unhide HFk).v14.cell (m := 1) rfl
  have p2 := (unhide HFk).v14.cell (m := 2) rfl
  have p3 := (unhide HFk).v14.cell (m := 3) rfl
  have p4 := (unhide HFk).v14.cell (m := 4) rfl
  have p5 := (unhide HFk).v14.cell (m := 5) rfl
  have p6 := (unhide HFk).v14.cell (m := 6) rfl
  have p7 := (unhide HFk).v14.cell (m := 7) rfl
  go_wp2_with fail
  refine (unhide HKG _ _ _ (unhide HFk).rg).mono ?_
  rintro e Wl ⟨rfl, hro, hmo⟩
  have HFl := hide ((unhide HFk).markG (unhide HFO) hmo hro)
  clear hro hmo p0 p1 p2 p3 p4 p5 p6 p7 HFk
  have p0 := (unhide HFl).v14.cell (m := 0) rfl
  have p1 := (unhide HFl).v14.cell (m := 1) rfl
  have p2 := (unhide HFl).v14.cell (m := 2) rfl
  have p3 := (unhide HFl).v14.cell (m := 3) rfl
  have p4 := (unhide HFl).v14.cell (m := 4) rfl
  have p5 := (unhide HFl).v14.cell (m := 5) rfl
  have p6 := (unhide HFl).v14.cell (m := 6) rfl
  have p7 := (unhide HFl).v14.cell (m := 7) rfl
  go_wp2_with fail
  refine (unhide HHG _ _ _ (unhide HFl).rg.it).mono ?_
  rintro e Wm ⟨rfl, hbm2⟩
  have HFm := hide ((unhide HFl).next hbm2)
  clear hbm2 p0 p1 p2 p3 p4 p5 p6 p7 HFl
  go_wp2_with fail
  refine Go.Code.wp_mono (Only.to (fun _ _ h => h)) (ml38 (hide (unhide HFm).v4) (hide (unhide HFm).v5) (hide fun X hX => (unhide HTS) X (bc (unhide HFm).bel hX)) (hide fun X hX => (unhide HTP) X (bc (unhide HFm).bel hX)) (hide fun X hX => (unhide HTM) X (bc (unhide HFm).bel hX)) HP (fun y100 y101 y102 y103 y104 y105 y106 y107 uh ch b18 Wn hbn hrh h18 hn18 hv18 => ?_))
  have HFn := hide ((unhide HFm).next hbn)
  have HRH := hide hrh
  have HV18 := hide hv18
  clear hbn hrh h18 hn18 hv18 HFm
  have p0 := (unhide HV18).cell (m := 0) rfl
  have p1 := (unhide HV18).cell (m := 1) rfl
  have p2 := (unhide HV18).cell (m := 2) rfl
  have p3 := (unhide HV18).cell (m := 3) rfl
  have p4 := (unhide HV18).cell (m := 4) rfl
  have p5 := (unhide HV18).cell (m := 5) rfl
  have p6 := (unhide HV18).cell (m := 6) rfl
  have p7 := (unhide HV18).cell (m := 7) rfl
  have q0 := (unhide HFn).v10.cell (m := 0) rfl
  have q1 := (unhide HFn).v10.cell (m := 1) rfl
  have q2 := (unhide HFn).v10.cell (m := 2) rfl
  have q3 := (unhide HFn).v10.cell (m := 3) rfl
  have q4 := (unhide HFn).v10.cell (m := 4) rfl
  have q5 := (unhide HFn).v10.cell (m := 5) rfl
  have q6 := (unhide HFn).v10.cell (m := 6) rfl
  have q7 := (unhide HFn).v10.cell (m := 7) rfl
  go_wp2_with fail
  refine (unhide HQ _ _ _ _ _ (unhide HRH).it (unhide HFn).rw.it).mono ?_
  rintro e Wo ⟨rfl, hbo⟩
  have HFo := hide ((unhide HFn).next hbo)
  clear hbo p0 p1 p2 p3 p4 p5 p6 p7 q0 q1 q2 q3 q4 q5 q6 q7 HFn
  have p0 := (unhide HFo).v14.cell (m := 0) rfl
  have p1 := (unhide HFo).v14.cell (m := 1) rfl
  have p2 := (unhide HFo).v14.cell (m := 2) rfl
  have p3 := (unhide HFo).v14.cell (m := 3) rfl
  have p4 := (unhide HFo).v14.cell (m := 4) rfl
  have p5 := (unhide HFo).v14.cell (m := 5) rfl
  have p6 := (unhide HFo).v14.cell (m := 6) rfl
  have p7 := (unhide HFo).v14.cell (m := 7) rfl
  go_wp2_with fail
  refine (unhide HHG _ _ _ (unhide HFo).rg.it).mono ?_
  rintro e Wp9 ⟨rfl, hbp9⟩
  have HFp := hide ((unhide HFo).next hbp9)
  clear hbp9 p0 p1 p2 p3 p4 p5 p6 p7 HFo
  go_wp2_with fail
  go_ret
  exact ⟨rfl, (unhide HFp).bel⟩
end Go.Proofs.Ytbjljofgpbecbaa
