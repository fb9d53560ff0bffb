/-
  The model's SketchFree: its two axes are laid.
-/
import Derived.Test.YtchdmigeopmacaaFreeS
import Derived.Test.YtchdmigeopmacaaFreeR
import Derived.Deep.AppendLies
namespace Go.Proofs.Ytchdmigeopmacaa
open Go.ChangeShapes Go.WideShapes Go.ChangeAt Go.RowKit
set_option linter.unusedVariables false
set_option linter.unusedSimpArgs false

theorem ruleL_1 {N : Nat} (s : List Int × Int) (a b m : Int) (h : a.toNat < N) : ruleL s (1, a, b, m) = ((tieL s (plc N 1 N) (plc N 1 a.toNat)).1, (tieL s (plc N 1 N) (plc N 1 a.toNat)).2) := by
  rw [plc_N, show plc N 1 a.toNat = 2 * a.toNat + 1 from if_pos h]
  simp [ruleL, spR, ruleStep]
theorem ruleL_2 {N : Nat} (s : List Int × Int) (a b m : Int) (h : a.toNat < N) : ruleL s (2, a, b, m) = ((tieL s (plc N 2 N) (plc N 2 a.toNat)).1, (tieL s (plc N 2 N) (plc N 2 a.toNat)).2) := by
  rw [plc_N, show plc N 2 a.toNat = 2 * a.toNat + 2 from if_pos h]
  simp [ruleL, spR, ruleStep]
theorem ruleL_x {N : Nat} (s : List Int × Int) (k a b m : Int) (hk : k = 3 ∨ k = 7) (h : a.toNat < N) (hb : b.toNat < N) : ruleL s (k, a, b, m) = ((tieL s (plc N 1 a.toNat) (plc N 1 b.toNat)).1, (tieL s (plc N 1 a.toNat) (plc N 1 b.toNat)).2) := by
  rw [show plc N 1 a.toNat = 2 * a.toNat + 1 from if_pos h, show plc N 1 b.toNat = 2 * b.toNat + 1 from if_pos hb]
  rcases hk with rfl | rfl <;> simp [ruleL, spR, ruleStep]
theorem ruleL_y {N : Nat} (s : List Int × Int) (k a b m : Int) (hk : k = 4 ∨ k = 8) (h : a.toNat < N) (hb : b.toNat < N) : ruleL s (k, a, b, m) = ((tieL s (plc N 2 a.toNat) (plc N 2 b.toNat)).1, (tieL s (plc N 2 a.toNat) (plc N 2 b.toNat)).2) := by
  rw [show plc N 2 a.toNat = 2 * a.toNat + 2 from if_pos h, show plc N 2 b.toNat = 2 * b.toNat + 2 from if_pos hb]
  rcases hk with rfl | rfl <;> simp [ruleL, spR, ruleStep]
theorem ruleL_l (s : List Int × Int) (k a b m : Int) (hk : k = 5 ∨ k = 6) : ruleL s (k, a, b, m) = (s, true) := by
  rcases hk with rfl | rfl <;> simp [ruleL, spR, ruleStep]
theorem ruleL_9 {N : Nat} (s : List Int × Int) (a b m : Int) (h : a.toNat < N) (hb : b.toNat < N) : ruleL s (9, a, b, m) = ((tieL (tieL s (plc N 1 a.toNat) (plc N 1 b.toNat)).1 (plc N 2 a.toNat) (plc N 2 b.toNat)).1, (tieL s (plc N 1 a.toNat) (plc N 1 b.toNat)).2 || (tieL (tieL s (plc N 1 a.toNat) (plc N 1 b.toNat)).1 (plc N 2 a.toNat) (plc N 2 b.toNat)).2) := by
  rw [show plc N 1 a.toNat = 2 * a.toNat + 1 from if_pos h, show plc N 1 b.toNat = 2 * b.toNat + 1 from if_pos hb, show plc N 2 a.toNat = 2 * a.toNat + 2 from if_pos h, show plc N 2 b.toNat = 2 * b.toNat + 2 from if_pos hb]
  simp [ruleL, spR, ruleStep]
/-- the block of the two axes -/
def ablk (w : World) (g : Nat) (v0 v1 : Value) : Prop := w.heap[g]? = some (.cells #[v0, v1] 28)
theorem ablk.c0 {w : World} {g : Nat} {v0 v1 : Value} (h : ablk w g v0 v1) : w.cell? ⟨g, 0, none⟩ = some v0 := by simp only [World.cell?]; rw [h]; rfl
theorem ablk.c1 {w : World} {g : Nat} {v0 v1 : Value} (h : ablk w g v0 v1) : w.cell? ⟨g, 1, none⟩ = some v1 := by simp only [World.cell?]; rw [h]; rfl
theorem ablk.fz {w : World} {g : Nat} {v0 v1 : Value} (h : ablk w g v0 v1) (o : Nat) : w.frozen? ⟨g, o, none⟩ = false := by simp only [World.frozen?]; rw [h]; simp
theorem ablk.s0 {w : World} {g : Nat} {v0 v1 : Value} (h : ablk w g v0 v1) (v : Value) : ablk (w.setCell ⟨g, 0, none⟩ v) g v v1 := by
  show (w.heap.modify g _)[g]? = _
  rw [Array.getElem?_modify, if_pos rfl, h]; rfl
theorem ablk.s1 {w : World} {g : Nat} {v0 v1 : Value} (h : ablk w g v0 v1) (v : Value) : ablk (w.setCell ⟨g, 1, none⟩ v) g v0 v := by
  show (w.heap.modify g _)[g]? = _
  rw [Array.getElem?_modify, if_pos rfl, h]; rfl
theorem ablk.lt {w : World} {g : Nat} {v0 v1 : Value} (h : ablk w g v0 v1) : g < w.heap.size := (Array.getElem?_eq_some_iff.1 h).1
theorem Row.gl {w : World} {B t k g n cap : Nat} {L : List Int} (h : Row w B t k (.slice (some ⟨g, 0, none⟩) n cap) n L) : g < w.heap.size := by
  rcases h.2 with ⟨h1, h2⟩ | ⟨g', cap', cur, hv, hB, hh, r⟩
  · cases h1
  · cases hv; exact (Array.getElem?_eq_some_iff.1 hh).1
theorem Row.at_g {w w' : World} {B t k g n cap : Nat} {L : List Int} (h : Row w B t k (.slice (some ⟨g, 0, none⟩) n cap) n L) (hb : w'.heap[g]? = w.heap[g]?) : Row w' B t k (.slice (some ⟨g, 0, none⟩) n cap) n L :=
  h.kept (B' := 0) (fun q hq => by cases hq; exact hb)

/-- one more node on both axes -/
structure Axes (W : World) (B ga q0 c0 q1 c1 i : Nat) (Gx Gy : List Int) : Prop where
  ax : ablk W ga (.slice (some ⟨q0, 0, none⟩) i c0) (.slice (some ⟨q1, 0, none⟩) i c1)
  r0 : Row W B 3 1 (.slice (some ⟨q0, 0, none⟩) i c0) i Gx
  r1 : Row W B 3 1 (.slice (some ⟨q1, 0, none⟩) i c1) i Gy
  ne : q0 ≠ q1 ∧ q0 ≠ ga ∧ q1 ≠ ga
  bg : B ≤ ga
theorem Axes.below {W W' : World} {B ga q0 c0 q1 c1 i : Nat} {Gx Gy : List Int} (h : Axes W B ga q0 c0 q1 c1 i Gx Gy) (hb : Below W.heap.size W W') : Axes W' B ga q0 c0 q1 c1 i Gx Gy :=
  ⟨(hb.block ga h.ax.lt).trans h.ax, h.r0.below hb, h.r1.below hb, h.ne, h.bg⟩
theorem Axes.x {W W' : World} {B ga q0 c0 q1 c1 i : Nat} {Gx Gy Gx' : List Int} (h : Axes W B ga q0 c0 q1 c1 i Gx Gy) (hb : But q0 W W') (hr : Row W' B 3 1 (.slice (some ⟨q0, 0, none⟩) i c0) i Gx') : Axes W' B ga q0 c0 q1 c1 i Gx' Gy :=
  ⟨(hb.block ga (Ne.symm h.ne.2.1)).trans h.ax, hr, h.r1.at_g (hb.block q1 (Ne.symm h.ne.1)), h.ne, h.bg⟩
theorem Axes.y {W W' : World} {B ga q0 c0 q1 c1 i : Nat} {Gx Gy Gy' : List Int} (h : Axes W B ga q0 c0 q1 c1 i Gx Gy) (hb : But q1 W W') (hr : Row W' B 3 1 (.slice (some ⟨q1, 0, none⟩) i c1) i Gy') : Axes W' B ga q0 c0 q1 c1 i Gx Gy' :=
  ⟨(hb.block ga (Ne.symm h.ne.2.2)).trans h.ax, h.r0.at_g (hb.block q0 h.ne.1), hr, h.ne, h.bg⟩

theorem Axes.drew {W : World} {B ga q0 c0 q1 c1 i : Nat} {Gx Gy : List Int} (h : Axes W B ga q0 c0 q1 c1 i Gx Gy) : Axes W.drew B ga q0 c0 q1 c1 i Gx Gy := ⟨h.ax, h.r0, h.r1, h.ne, h.bg⟩
theorem Axes.up {W : World} {B ga q0 c0 q1 c1 i : Nat} {Gx Gy : List Int} (h : Axes W B ga q0 c0 q1 c1 i Gx Gy) (o : Obj) : Axes (W.alloc o) B ga q0 c0 q1 c1 i Gx Gy := h.below (ba (Below.refl _ _) o)
theorem but_cell {g : Nat} {w w' : World} (hb : But g w w') {b o : Nat} {v : Value} (hne : b ≠ g) (h : w.cell? ⟨b, o, none⟩ = some v) : w'.cell? ⟨b, o, none⟩ = some v := cell_but hb hne h
def freeTo (N : Nat) (cl : Nat → Nat) (i : Nat) : Nat := (List.range i).countP fun j => decide (cl j = j) && decide (cl N ≠ j)
theorem freeTo_succ (N : Nat) (cl : Nat → Nat) (i : Nat) : freeTo N cl (i + 1) = freeTo N cl i + if cl i = i ∧ cl N ≠ i then 1 else 0 := by
  unfold freeTo
  rw [List.range_succ, List.countP_append]
  by_cases h : cl i = i ∧ cl N ≠ i
  · rw [if_pos h]; simp [h.1, h.2]
  · rw [if_neg h]
    have : (decide (cl i = i) && decide (cl N ≠ i)) = false := by
      rw [← Bool.decide_and]; exact decide_eq_false h
    rw [List.countP_cons, List.countP_nil, this]
    rfl
theorem freeTo_le (N : Nat) (cl : Nat → Nat) (i : Nat) : freeTo N cl i ≤ i := by
  have := List.countP_le_length (p := fun j => decide (cl j = j) && decide (cl N ≠ j)) (l := List.range i)
  simpa [freeTo] using this

set_option maxHeartbeats 8000000 in
set_option maxRecDepth 100000 in
theorem freeM_kept (N : Nat) (u : Option Addr) (p po l c : Nat) (rs : List Ru) (FF : (List Int × Int) × List Nat) (w : World) (h1 : 1 ≤ N) (h2 : N ≤ 24) (HL : Hid (rs.length = l)) (hl : l ≤ 60)
    (HX : Hid (l ≠ 0 → u = some ⟨p, po, none⟩ ∧ p < w.heap.size ∧ RusAt w p po rs)) (HOK : Hid (∀ r ∈ rs, ruOk (N : Int) r = true)) (HFF : Hid (frTo N rs l = FF))
    (HOKM : Hid (∀ W, Below w.heap.size w W → Calls Try.prog 20 #[skv (N : Int) u l c] W fun e w' => e = .returned (.bool true) ∧ Below W.heap.size W w'))
    (HALL : Hid (∀ W, Below w.heap.size w W → Calls Try.prog 26 #[skv (N : Int) u l c] W fun e w' => ∃ v, e = .returned v ∧ Row w' (W.heap.size + 1) 3 1 v l (nats (List.range l)) ∧ Below W.heap.size W w'))
    (HKEEP : Hid (∀ W, Below w.heap.size w W → ∀ v, Row W 0 3 1 v l (nats (List.range l)) → Calls Try.prog 27 #[skv (N : Int) u l c, v] W fun e w' => (∃ v, e = .returned (.tuple #[v, .bool true])) ∧ Below W.heap.size W w')) :
    Calls Try.prog 14 #[skv (N : Int) u l c] w fun e w' => ∃ v, e = .returned (.tuple #[.int .i64 FF.1.2, v, .int .i64 0]) ∧ Sl w' v FF.2.length (nats FF.2) ∧ Below w.heap.size w w' := by
  obtain ⟨i0, hi, hz0, hz1, hz2⟩ := info_parts info3k
  go_enter Try.func14, Try.ntmps14
  go_wp2_with fail
  refine (unhide HOKM _ (ba (Below.refl _ _) _)).mono ?_
  rintro e W1 ⟨rfl, hb1⟩
  have a0 : W1.cell? ⟨w.heap.size, 0, none⟩ = some (.int .i64 (N : Int)) := keep1 hb1 (by simp [go_sem])
  have a1 : W1.cell? ⟨w.heap.size, 1, none⟩ = some (.slice u l c) := keep1 hb1 (by simp [go_sem])
  have HB1 := hide (bc (ba (Below.refl _ _) _) hb1)
  clear hb1
  go_wp2_with fail
  go_region_held3 (fun wx => wx.cell? ⟨w.heap.size, 0, none⟩ = some (.int .i64 (N : Int)) ∧ wx.cell? ⟨w.heap.size, 1, none⟩ = some (.slice u l c))
    (simp (maxDischargeDepth := 12) [go_sem, le1, lt1, *])
    (first
    | (go_at_call 26; refine (unhide HALL _ (by repeat (first | exact unhide HB1 | refine Below.drew ?_))).mono ?_; rintro e Wa ⟨va, rfl, hra, hb⟩; have HBa := hide hb; have HRa := hide (hra.mono (Nat.zero_le _)); have x0 := keep1 hb (b := w.heap.size) (o := 0) (v := .int .i64 (N : Int)) a0; have x1 := keep1 hb (b := w.heap.size) (o := 1) (v := .slice u l c) a1; clear hb hra)
    | (go_at_call 27; refine (unhide HKEEP _ (by repeat (first | exact unhide HB1 | refine bc ?_ (unhide HBa) | refine Below.drew ?_)) va (by exact unhide HRa)).mono ?_; rintro e W2 ⟨⟨vk, rfl⟩, hb⟩; have HBk := hide hb; have y0 := keep1 hb (b := w.heap.size) (o := 0) (v := .int .i64 (N : Int)) x0; have y1 := keep1 hb (b := w.heap.size) (o := 1) (v := .slice u l c) x1; clear hb))
  all_goals
    have HB2 : Hid (Below w.heap.size w W2) := hide (by repeat (first | exact unhide HB1 | refine bc ?_ (unhide HBk) | refine bc ?_ (unhide HBa) | refine Below.drew ?_))
    have lt2 := cell_lt y0
    clear x0 x1 HBa HBk HRa a0 a1
    have hb3 := show Below W2.heap.size W2 (((W2.alloc (.cells #[] 3)).alloc (.cells #[] 3)).alloc (.cells #[.slice (some ⟨W2.heap.size, 0, none⟩) 0 0, .slice (some ⟨W2.heap.size + 1, 0, none⟩) 0 0] 28)) from ba (ba (ba (Below.refl _ _) _) _) _
    have hax : Axes (((W2.alloc (.cells #[] 3)).alloc (.cells #[] 3)).alloc (.cells #[.slice (some ⟨W2.heap.size, 0, none⟩) 0 0, .slice (some ⟨W2.heap.size + 1, 0, none⟩) 0 0] 28)) W2.heap.size (W2.heap.size + 2) W2.heap.size 0 (W2.heap.size + 1) 0 0 (nats (List.range 0)) (nats (List.range 0)) := by
      have e0 : (((W2.alloc (.cells #[] 3)).alloc (.cells #[] 3)).alloc (.cells #[.slice (some ⟨W2.heap.size, 0, none⟩) 0 0, .slice (some ⟨W2.heap.size + 1, 0, none⟩) 0 0] 28)).heap[W2.heap.size]? = some (.cells #[] 3) := (Below.heap_alloc _ _ _ (by simp; omega)).trans ((Below.heap_alloc _ _ _ (by simp)).trans (heap_alloc_new W2 _))
      have e1 : (((W2.alloc (.cells #[] 3)).alloc (.cells #[] 3)).alloc (.cells #[.slice (some ⟨W2.heap.size, 0, none⟩) 0 0, .slice (some ⟨W2.heap.size + 1, 0, none⟩) 0 0] 28)).heap[W2.heap.size + 1]? = some (.cells #[] 3) := (Below.heap_alloc _ _ _ (by simp)).trans (by have := heap_alloc_new (W2.alloc (.cells #[] 3)) (.cells #[] 3); simpa using this)
      have e2 : (((W2.alloc (.cells #[] 3)).alloc (.cells #[] 3)).alloc (.cells #[.slice (some ⟨W2.heap.size, 0, none⟩) 0 0, .slice (some ⟨W2.heap.size + 1, 0, none⟩) 0 0] 28)).heap[W2.heap.size + 2]? = some (.cells #[.slice (some ⟨W2.heap.size, 0, none⟩) 0 0, .slice (some ⟨W2.heap.size + 1, 0, none⟩) 0 0] 28) := by have := heap_alloc_new ((W2.alloc (.cells #[] 3)).alloc (.cells #[] 3)) (.cells #[.slice (some ⟨W2.heap.size, 0, none⟩) 0 0, .slice (some ⟨W2.heap.size + 1, 0, none⟩) 0 0] 28); simpa using this
      exact ⟨e2, ⟨rfl, .inr ⟨_, 0, #[], rfl, Nat.le_refl _, e0, Nat.le_refl _, by decide, rfl, rfl⟩⟩, ⟨rfl, .inr ⟨_, 0, #[], rfl, by omega, e1, Nat.le_refl _, by decide, rfl, rfl⟩⟩, ⟨by omega, by omega, by omega⟩, by omega⟩
    have HB3 := hide hb3
    have HAX := hide hax
    clear hb3 hax
    go_wp2_with fail
    generalize ((W2.alloc (.cells #[] 3)).alloc (.cells #[] 3)).alloc (.cells #[.slice (some ⟨W2.heap.size, 0, none⟩) 0 0, .slice (some ⟨W2.heap.size + 1, 0, none⟩) 0 0] 28) = W3 at *
    generalize hga : W2.heap.size + 1 + 1 = ga at *
    go_loopw [9] (fun s W => ∃ i q0 c0 q1 c1 : Nat, s = .int .i64 (i : Int) ∧ i ≤ N + 1 ∧ Axes W W2.heap.size ga q0 c0 q1 c1 i (nats (List.range i)) (nats (List.range i)) ∧ Below W2.heap.size W2 W) (fun s _ => N + 1 - (intOf s).toNat)
    case atStart => exact ⟨0, _, _, _, _, rfl, Nat.zero_le _, unhide HAX, unhide HB3⟩
    case round =>
      obtain ⟨i, q0, c0, q1, c1, rfl, hin, hax, hbw⟩ := hrel
      have HAXi := hide hax
      have HBW := hide hbw
      clear HAX HB3
      by_cases h : i < N + 1
      · have t1 : decide ((i : Int) ≤ (N : Int)) = true := decide_eq_true (by omega)
        have z0 := hax.ax.c0
        have z1 := hax.ax.c1
        have ltg := hax.ax.lt
        have lq0 := hax.r0.gl
        have lq1 := hax.r1.gl
        obtain ⟨n1, n2, n3⟩ := hax.ne
        have hbg := hax.bg
        have gq0 := hax.r0.ge
        have gq1 := hax.r1.ge
        have o2 : (0 : Nat) < 2 := by omega
        clear hax hbw
        go_wp2_with (at_builtin; refine unhide ?_)
        refine hide ?_
        refine wpList_append_lies _ rfl _ _ 28 rfl W2.heap.size 3 i0 _ 1 8 Try.underlying28 hi hz0 hz1 hz2 rfl (by decide) (.slice (some ⟨q0, 0, none⟩) i c0) i ((nats (List.range i)).map (Value.int .i64)) rfl ((unhide HAXi).r0.alloc _) _ 1 1 ([(i : Int)].map (Value.int .i64)) rfl rfl (by first | exact news_cells _ _ (by simp) | exact news_drew _ _ (by simp)) ints_one (by omega) (by unfold maxLen; omega) (by omega) (by simp; omega) (wr.heap.size + 1) (by simp) ?_
        intro g' cap' w1 hown' hgrow hat hlt
        have kp : ∀ k, k < wr.heap.size → k ≠ q0 → w1.heap[k]? = wr.heap[k]? := fun k hk hne => (hgrow.block k (by simp; omega) (by simp [Value.ownBlock]; exact hne)).trans (Below.heap_alloc _ _ _ hk)
        have hg' : g' = q0 ∨ g' = wr.heap.size + 1 := by rcases hat with h5 | h5; exact .inl (by cases h5; rfl); exact .inr h5
        have X0 : Hid (Row w1 W2.heap.size 3 1 (.slice (some ⟨g', 0, none⟩) (i + 1) cap') (i + 1) (nats (List.range (i + 1)))) := hide (by rw [nats_range]; unfold Row; rw [List.map_append]; exact hown')
        have X1 : Hid (Row w1 W2.heap.size 3 1 (.slice (some ⟨q1, 0, none⟩) i c1) i (nats (List.range i))) := hide ((unhide HAXi).r1.at_g (kp q1 lq1 (Ne.symm n1)))
        have XA : Hid (ablk w1 ga (.slice (some ⟨q0, 0, none⟩) i c0) (.slice (some ⟨q1, 0, none⟩) i c1)) := hide ((kp ga ltg (Ne.symm n2)).trans (unhide HAXi).ax)
        have sz1 : wr.heap.size ≤ w1.heap.size := by have := hgrow.size; simp at this; omega
        have HB4 : Hid (Below W2.heap.size W2 w1) := hide ((unhide HBW).trans ⟨hgrow.os, hgrow.tape, hgrow.output, sz1, fun k hk => kp k (by omega) (by omega)⟩)
        have y0 := (unhide XA).c0
        have y1 := (unhide XA).c1
        have fz := (unhide XA).fz
        have gne : g' ≠ ga ∧ g' ≠ q1 := by omega
        have gge : W2.heap.size ≤ g' := by omega
        clear hown' hgrow hat kp z0 z1
        go_wp2_with (at_builtin; refine unhide ?_)
        refine hide ?_
        have X1' : Hid (Row (w1.setCell ⟨ga, 0, none⟩ (.slice (some ⟨g', 0, none⟩) (i + 1) cap')) W2.heap.size 3 1 (.slice (some ⟨q1, 0, none⟩) i c1) i (nats (List.range i))) := hide ((unhide X1).at_g (Below.heap_setCell _ _ _ _ n3))
        have X0' : Hid (Row (w1.setCell ⟨ga, 0, none⟩ (.slice (some ⟨g', 0, none⟩) (i + 1) cap')) W2.heap.size 3 1 (.slice (some ⟨g', 0, none⟩) (i + 1) cap') (i + 1) (nats (List.range (i + 1)))) := hide ((unhide X0).at_g (Below.heap_setCell _ _ _ _ gne.1))
        have XA' : Hid (ablk (w1.setCell ⟨ga, 0, none⟩ (.slice (some ⟨g', 0, none⟩) (i + 1) cap')) ga (.slice (some ⟨g', 0, none⟩) (i + 1) cap') (.slice (some ⟨q1, 0, none⟩) i c1)) := hide ((unhide XA).s0 _)
        have HB5 : Hid (Below W2.heap.size W2 (w1.setCell ⟨ga, 0, none⟩ (.slice (some ⟨g', 0, none⟩) (i + 1) cap'))) := hide (Below.setCell (unhide HB4) hbg _)
        have szz : (w1.setCell ⟨ga, 0, none⟩ (.slice (some ⟨g', 0, none⟩) (i + 1) cap')).heap.size = w1.heap.size := by simp [World.setCell]
        generalize w1.setCell ⟨ga, 0, none⟩ (.slice (some ⟨g', 0, none⟩) (i + 1) cap') = V at *
        refine wpList_append_lies _ rfl _ _ 28 rfl W2.heap.size 3 i0 _ 1 8 Try.underlying28 hi hz0 hz1 hz2 rfl (by decide) (.slice (some ⟨q1, 0, none⟩) i c1) i ((nats (List.range i)).map (Value.int .i64)) rfl ((unhide X1').alloc _) _ 1 1 ([(i : Int)].map (Value.int .i64)) rfl rfl (by first | exact news_cells _ _ (by omega) | exact news_drew _ _ (by omega)) ints_one (by omega) (by unfold maxLen; omega) (by omega) (by simp; omega) (V.heap.size + 1) (by simp) ?_
        intro g2 cap2 w2 hown' hgrow hat hlt2
        have kp : ∀ k, k < V.heap.size → k ≠ q1 → w2.heap[k]? = V.heap[k]? := fun k hk hne => (hgrow.block k (by simp; omega) (by simp [Value.ownBlock]; exact hne)).trans (Below.heap_alloc _ _ _ hk)
        have hg2 : g2 = q1 ∨ g2 = V.heap.size + 1 := by rcases hat with h5 | h5; exact .inl (by cases h5; rfl); exact .inr h5
        have Y1 : Hid (Row w2 W2.heap.size 3 1 (.slice (some ⟨g2, 0, none⟩) (i + 1) cap2) (i + 1) (nats (List.range (i + 1)))) := hide (by rw [nats_range]; unfold Row; rw [List.map_append]; exact hown')
        have Y0 : Hid (Row w2 W2.heap.size 3 1 (.slice (some ⟨g', 0, none⟩) (i + 1) cap') (i + 1) (nats (List.range (i + 1)))) := hide ((unhide X0').at_g (kp g' (by omega) gne.2))
        have YA : Hid (ablk w2 ga (.slice (some ⟨g', 0, none⟩) (i + 1) cap') (.slice (some ⟨q1, 0, none⟩) i c1)) := hide ((kp ga (by omega) (Ne.symm n3)).trans (unhide XA'))
        have sz2 : V.heap.size ≤ w2.heap.size := by have := hgrow.size; simp at this; omega
        have HB6 : Hid (Below W2.heap.size W2 w2) := hide ((unhide HB5).trans ⟨hgrow.os, hgrow.tape, hgrow.output, sz2, fun k hk => kp k (by have := (unhide HB5).size; omega) (by omega)⟩)
        have y0 := (unhide YA).c0
        have y1 := (unhide YA).c1
        have fz := (unhide YA).fz
        have g2ne : g2 ≠ ga ∧ g' ≠ g2 := by omega
        clear hown' hgrow hat kp
        go_wp2_with fail
        go_roundw
        case rel =>
          refine ⟨i + 1, g', cap', g2, cap2, by simp, by omega, ⟨(unhide YA).s1 _, (unhide Y0).at_g (Below.heap_setCell _ _ _ _ gne.1), (unhide Y1).at_g (Below.heap_setCell _ _ _ _ g2ne.1), ⟨g2ne.2, gne.1, g2ne.1⟩, hbg⟩, Below.setCell (unhide HB6) hbg _⟩
        case measure => simp only [intOf]; omega
      · have t1 : decide ((i : Int) ≤ (N : Int)) = false := decide_eq_false (by omega)
        have en : i = N + 1 := by omega
        subst en
        have HAXN := hide (unhide HAXi)
        have z0 := keep1 (unhide HBW) y0
        have z1 := keep1 (unhide HBW) y1
        have ltga := (unhide HAXi).ax.lt
        have ltq0 := (unhide HAXi).r0.gl
        have ltq1 := (unhide HAXi).r1.gl
        obtain ⟨n1, n2, n3⟩ := (unhide HAXi).ne
        have hbg := (unhide HAXi).bg
        have gq0 := (unhide HAXi).r0.ge
        have gq1 := (unhide HAXi).r1.ge
        have ltw0 := cell_lt z0
        clear hax hbw
        go_wp2_with fail
        have hb4 := ba (Below.refl wr.heap.size wr) (.cells #[] 3)
        have HR4 : Hid (Row (wr.alloc (.cells #[] 3)) wr.heap.size 3 1 (.slice (some ⟨wr.heap.size, 0, none⟩) 0 0) 0 []) := hide (row_made wr 3 wr.heap.size 1 (Nat.le_refl _) wr.heap.size rfl)
        have HAX4 := hide ((unhide HAXi).below hb4)
        have z04 := keep1 hb4 z0
        have z14 := keep1 hb4 z1
        have HB4 : Hid (Below W2.heap.size W2 (wr.alloc (.cells #[] 3))) := hide (bc (unhide HBW) hb4)
        have hs4 : (wr.alloc (.cells #[] 3)).heap.size = wr.heap.size + 1 := by simp
        generalize hbs : wr.heap.size = bs at *
        generalize wr.alloc (.cells #[] 3) = W4 at *
        clear hb4 z0 z1 HAXi HAXN HBW hbs
        go_loopw [10, 11] (fun v s W => ∃ (j : Nat) (la : List Int) (f : Int) (sp : List Nat) (Gx Gy : List Int) (cx dx cy dy : Nat → Nat), s = .int .i64 (j : Int) ∧ j ≤ l ∧ frTo N rs j = ((la, f), sp) ∧ St N Gx Gy cx dx cy dy la f ∧ Axes W W2.heap.size ga q0 c0 q1 c1 (N + 1) Gx Gy ∧ Row W bs 3 1 v sp.length (nats sp) ∧ sp.length ≤ j ∧ W.cell? ⟨w.heap.size, 0, none⟩ = some (.int .i64 (N : Int)) ∧ W.cell? ⟨w.heap.size, 1, none⟩ = some (.slice u l c) ∧ Below W2.heap.size W2 W ∧ bs + 1 ≤ W.heap.size) (fun _ s _ => l - (intOf s).toNat)
        case atStart => exact ⟨0, _, _, [], _, _, _, _, _, _, rfl, Nat.zero_le _, rfl, st_start N, unhide HAX4, unhide HR4, Nat.le_refl _, z04, z14, unhide HB4, by omega⟩
        case round =>
          obtain ⟨j, la, f, sp, Gx, Gy, cx, dx, cy, dy, rfl, hj, hfr, hst, hax, hrow, hsp, b0, b1, hbw, hbs0⟩ := hrel
          have HFR := hide hfr
          have HST := hide hst
          have HAXj := hide hax
          have HRj := hide hrow
          have HBj := hide hbw
          have szw := hax.ax.lt
          have szb := hbw.size
          clear hfr hst hax hrow hbw
          by_cases hjl : j < l
          · have j1 : (j : Int) < (l : Int) := by omega
            have j0 : (0 : Int) ≤ (j : Int) := Int.natCast_nonneg _
            have jz : decide ((j : Int) < (l : Int)) = true := decide_eq_true j1
            obtain ⟨rfl, pw, pa⟩ := unhide HX (by omega)
            obtain ⟨r, hr⟩ : ∃ r, rs[j]? = some r := ⟨rs[j]'(by rw [unhide HL]; exact hjl), List.getElem?_eq_getElem _⟩
            have hok := unhide HOK r (List.mem_of_getElem? hr)
            obtain ⟨r0, r1, r2, r3⟩ := (pa.bel (bc (unhide HB2) (unhide HBj)) pw) j _ hr
            have HNXT : Hid (frTo N rs (j + 1) = ((ruleL (la, f) r).1, if (ruleL (la, f) r).2 = true then sp else sp ++ [j])) := hide (by
              have hg : rs.getD j (0, 0, 0, 0) = r := by rw [List.getD_eq_getElem?_getD, hr]; rfl
              rw [frTo, unhide HFR, hg])
            have ltp := cell_lt r0
            obtain ⟨k, a, b, m⟩ := r
            simp only at r0 r1 r2 r3
            obtain ⟨g1, g2, g3, g4⟩ := of_decide_eq_true hok
            simp only at g1 g2 g3 g4
            have hb0 : 0 ≤ b := by split at g3 <;> omega
            obtain ⟨A, rfl⟩ : ∃ A : Nat, a = (A : Int) := ⟨a.toNat, by omega⟩
            obtain ⟨Bn, rfl⟩ : ∃ Bn : Nat, b = (Bn : Int) := ⟨b.toNat, by omega⟩
            have hA : A < N := by omega
            have x0 := (unhide HAXj).ax.c0
            have x1 := (unhide HAXj).ax.c1
            have hk9 : k = 1 ∨ k = 2 ∨ k = 3 ∨ k = 4 ∨ k = 5 ∨ k = 6 ∨ k = 7 ∨ k = 8 ∨ k = 9 := by omega
            clear pa hr pw hok g2 g4 hb0
            rcases hk9 with rfl | rfl | rfl | rfl | rfl | rfl | rfl | rfl | rfl
            · skip
              have HTI := hide (fun W (hW : Axes W W2.heap.size ga q0 c0 q1 c1 (N + 1) Gx Gy) => tieM_any W2.heap.size (N + 1) q0 c0 N A Gx cx dx W (by omega) (by omega) (by omega) (hide (unhide HST).fx) (hide hW.r0))
              have hST2 := (unhide HST).tieX (a := N) (b := A) (by omega) (by omega)
              have HST2 := hide hST2.1
              have HNB := hide hST2.2
              have HNX0 : Hid (frTo N rs (j + 1) = ((tieL (la, f) (plc N 1 (N)) (plc N 1 (A))).1, if (tieL (la, f) (plc N 1 (N)) (plc N 1 (A))).2 = true then sp else sp ++ [j])) := hide (by
                have h5 := unhide HNXT
                rw [ruleL_1 (N := N) (la, f) (A : Int) (Bn : Int) m (by omega)] at h5
                simp only [Int.toNat_natCast] at h5
                exact h5)
              clear hST2 HNXT
              rw [unhide HNB] at HNX0
              clear HNB
              generalize tieL (la, f) (plc N 1 (N)) (plc N 1 (A)) = TT at *
              obtain ⟨⟨la2, f2⟩, nb0⟩ := TT
              generalize (!decide (cx (N) = cx (A))) = nb at *
              have rc0 : (wr.alloc (.cells #[.int .i64 1, .int .i64 (A : Int), .int .i64 (Bn : Int), .int .i64 m] 35)).cell? ⟨wr.heap.size, 0, none⟩ = some (.int .i64 1) := by simp [go_sem]
              have rc1 : (wr.alloc (.cells #[.int .i64 1, .int .i64 (A : Int), .int .i64 (Bn : Int), .int .i64 m] 35)).cell? ⟨wr.heap.size, 1, none⟩ = some (.int .i64 (A : Int)) := by simp [go_sem]
              have rc2 : (wr.alloc (.cells #[.int .i64 1, .int .i64 (A : Int), .int .i64 (Bn : Int), .int .i64 m] 35)).cell? ⟨wr.heap.size, 2, none⟩ = some (.int .i64 (Bn : Int)) := by simp [go_sem]
              have rc3 : (wr.alloc (.cells #[.int .i64 1, .int .i64 (A : Int), .int .i64 (Bn : Int), .int .i64 m] 35)).cell? ⟨wr.heap.size, 3, none⟩ = some (.int .i64 m) := by simp [go_sem]
              have rc4 := ka (o := .cells #[.int .i64 1, .int .i64 (A : Int), .int .i64 (Bn : Int), .int .i64 m] 35) x0
              have rc5 := ka (o := .cells #[.int .i64 1, .int .i64 (A : Int), .int .i64 (Bn : Int), .int .i64 m] 35) x1
              have HAXR := hide ((unhide HAXj).up (.cells #[.int .i64 1, .int .i64 (A : Int), .int .i64 (Bn : Int), .int .i64 m] 35)).drew
              have wk0 : IntKind.i64.wrap 0 = 0 := by decide
              have wk1 : IntKind.i64.wrap 1 = 1 := by decide
              go_wp2_with fail
              go_region_held3 (fun wx => wx.cell? ⟨wr.heap.size, 0, none⟩ = some (.int .i64 (1)) ∧ wx.cell? ⟨wr.heap.size, 1, none⟩ = some (.int .i64 ((A : Int))) ∧ wx.cell? ⟨wr.heap.size, 2, none⟩ = some (.int .i64 ((Bn : Int))) ∧ wx.cell? ⟨wr.heap.size, 3, none⟩ = some (.int .i64 (m)) ∧ wx.cell? ⟨ga, 0, none⟩ = some (.slice (some ⟨q0, 0, none⟩) (N + 1) c0) ∧ wx.cell? ⟨ga, 1, none⟩ = some (.slice (some ⟨q1, 0, none⟩) (N + 1) c1))
                (simp (maxDischargeDepth := 12) [go_sem, le1, lt1, *])
                (first
                | (go_at_call 35; refine (unhide HTI _ (unhide HAXR)).mono ?_; rintro e W6 ⟨rfl, hr6, hb6⟩; have HAX6 := hide (Axes.x (unhide HAXR) hb6 hr6); have HBT := hide hb6; have sc0 := but_cell hb6 (b := wr.heap.size) (o := 0) (v := .int .i64 (1)) (by omega) rc0; have sc1 := but_cell hb6 (b := wr.heap.size) (o := 1) (v := .int .i64 (A : Int)) (by omega) rc1; have sc2 := but_cell hb6 (b := wr.heap.size) (o := 2) (v := .int .i64 (Bn : Int)) (by omega) rc2; have sc3 := but_cell hb6 (b := wr.heap.size) (o := 3) (v := .int .i64 m) (by omega) rc3; have sc4 := but_cell hb6 (b := ga) (o := 0) (v := .slice (some ⟨q0, 0, none⟩) (N + 1) c0) (by omega) rc4; have sc5 := but_cell hb6 (b := ga) (o := 1) (v := .slice (some ⟨q1, 0, none⟩) (N + 1) c1) (by omega) rc5; clear hr6 hb6))
              all_goals
                have HR7 : Hid (Row W6 bs 3 1 u10 sp.length (nats sp)) := hide ((unhide HRj).kept (B' := 0) (fun g hg => by have h7 := World.ownsRow.lt (unhide HRj) g hg; exact ((unhide HBT).block g (by omega)).trans (Below.heap_alloc _ _ _ h7.2)))
                have d0 : W6.cell? ⟨w.heap.size, 0, none⟩ = some (.int .i64 (N : Int)) := but_cell (unhide HBT) (b := w.heap.size) (o := 0) (v := .int .i64 (N : Int)) (by omega) (ka b0)
                have d1 : W6.cell? ⟨w.heap.size, 1, none⟩ = some (.slice (some ⟨p, po, none⟩) l c) := but_cell (unhide HBT) (b := w.heap.size) (o := 1) (v := .slice (some ⟨p, po, none⟩) l c) (by omega) (ka b1)
                have HB6 : Hid (Below W2.heap.size W2 W6) := hide (((unhide HBj).alloc (by omega) _).drew.trans ((unhide HBT).bel gq0))
                have sz6 : wr.heap.size + 1 = W6.heap.size := by have := (unhide HBT).size; simpa using this
                clear sc0 sc1 sc2 sc3 sc4 sc5 HBT
                cases nb with
                | true =>
                  have HNX : Hid (frTo N rs (j + 1) = ((la2, f2), sp)) := hide (unhide HNX0)
                  go_wp2_with fail
                  go_roundw
                  case rel =>
                    repeat apply Exists.intro
                    refine ⟨?_, rfl⟩
                    exact ⟨j + 1, _, _, sp, _, _, _, _, _, _, by simp, hjl, unhide HNX, unhide HST2, unhide HAX6, unhide HR7, by omega, d0, d1, unhide HB6, by omega⟩
                  case measure => first | (simp only [intOf]; omega) | (simp [intOf]; omega)
                | false =>
                  have HNX : Hid (frTo N rs (j + 1) = ((la2, f2), sp ++ [j])) := hide (unhide HNX0)
                  go_wp2_with (at_builtin; refine unhide ?_)
                  refine hide ?_
                  refine wpList_append_own _ rfl _ _ 28 rfl bs 3 i0 _ 1 8 Try.underlying28 hi hz0 hz1 hz2 rfl (by decide) _ _ _ rfl ((unhide HR7).alloc _) _ 1 1 ([(j : Int)].map (Value.int .i64)) rfl rfl (by first | exact news_cells _ _ (by simp) | exact news_drew _ _ (by simp)) ints_one (by unfold maxLen; omega) (by omega) (by simp; omega) ?_
                  intro v' w1 hown' hgrow _
                  have R := hide (own_more (wr := W6) (news := [(j : Int)]) (by repeat (first | exact Below.refl _ _ | refine Below.alloc ?_ (by first | omega | (simp; omega)) _ | refine Below.drew ?_)) (by simp; omega) (unhide HR7) hown' hgrow)
                  clear hown' hgrow
                  go_wp2_with fail
                  go_roundw
                  case rel =>
                    repeat apply Exists.intro
                    refine ⟨?_, rfl⟩
                    have hbl := (unhide R).2
                    have hA := unhide HAX6
                    refine ⟨j + 1, _, _, sp ++ [j], _, _, _, _, _, _, by simp, hjl, unhide HNX, unhide HST2, ⟨(hbl.block ga (by omega)).trans hA.ax, hA.r0.at_g (hbl.block q0 (by omega)), hA.r1.at_g (hbl.block q1 (by omega)), hA.ne, hA.bg⟩, ?_, by simp; omega, (hbl.cell (p := ⟨w.heap.size, 0, none⟩) (show w.heap.size < bs by omega)).trans (d0), (hbl.cell (p := ⟨w.heap.size, 1, none⟩) (show w.heap.size < bs by omega)).trans (d1), (unhide HB6).trans (hbl.mono (by omega)), by have := hbl.size; omega⟩
                    have h1 := (unhide R).1
                    have e1 : nats (sp ++ [j]) = nats sp ++ [(j : Int)] := by simp [nats]
                    rw [e1, List.length_append]
                    exact h1
                  case measure => first | (simp only [intOf]; omega) | (simp [intOf]; omega)
            · skip
              have HTI := hide (fun W (hW : Axes W W2.heap.size ga q0 c0 q1 c1 (N + 1) Gx Gy) => tieM_any W2.heap.size (N + 1) q1 c1 N A Gy cy dy W (by omega) (by omega) (by omega) (hide (unhide HST).fy) (hide hW.r1))
              have hST2 := (unhide HST).tieY (a := N) (b := A) (by omega) (by omega)
              have HST2 := hide hST2.1
              have HNB := hide hST2.2
              have HNX0 : Hid (frTo N rs (j + 1) = ((tieL (la, f) (plc N 2 (N)) (plc N 2 (A))).1, if (tieL (la, f) (plc N 2 (N)) (plc N 2 (A))).2 = true then sp else sp ++ [j])) := hide (by
                have h5 := unhide HNXT
                rw [ruleL_2 (N := N) (la, f) (A : Int) (Bn : Int) m (by omega)] at h5
                simp only [Int.toNat_natCast] at h5
                exact h5)
              clear hST2 HNXT
              rw [unhide HNB] at HNX0
              clear HNB
              generalize tieL (la, f) (plc N 2 (N)) (plc N 2 (A)) = TT at *
              obtain ⟨⟨la2, f2⟩, nb0⟩ := TT
              generalize (!decide (cy (N) = cy (A))) = nb at *
              have rc0 : (wr.alloc (.cells #[.int .i64 2, .int .i64 (A : Int), .int .i64 (Bn : Int), .int .i64 m] 35)).cell? ⟨wr.heap.size, 0, none⟩ = some (.int .i64 2) := by simp [go_sem]
              have rc1 : (wr.alloc (.cells #[.int .i64 2, .int .i64 (A : Int), .int .i64 (Bn : Int), .int .i64 m] 35)).cell? ⟨wr.heap.size, 1, none⟩ = some (.int .i64 (A : Int)) := by simp [go_sem]
              have rc2 : (wr.alloc (.cells #[.int .i64 2, .int .i64 (A : Int), .int .i64 (Bn : Int), .int .i64 m] 35)).cell? ⟨wr.heap.size, 2, none⟩ = some (.int .i64 (Bn : Int)) := by simp [go_sem]
              have rc3 : (wr.alloc (.cells #[.int .i64 2, .int .i64 (A : Int), .int .i64 (Bn : Int), .int .i64 m] 35)).cell? ⟨wr.heap.size, 3, none⟩ = some (.int .i64 m) := by simp [go_sem]
              have rc4 := ka (o := .cells #[.int .i64 2, .int .i64 (A : Int), .int .i64 (Bn : Int), .int .i64 m] 35) x0
              have rc5 := ka (o := .cells #[.int .i64 2, .int .i64 (A : Int), .int .i64 (Bn : Int), .int .i64 m] 35) x1
              have HAXR := hide ((unhide HAXj).up (.cells #[.int .i64 2, .int .i64 (A : Int), .int .i64 (Bn : Int), .int .i64 m] 35)).drew
              have wk0 : IntKind.i64.wrap 0 = 0 := by decide
              have wk1 : IntKind.i64.wrap 1 = 1 := by decide
              go_wp2_with fail
              go_region_held3 (fun wx => wx.cell? ⟨wr.heap.size, 0, none⟩ = some (.int .i64 (2)) ∧ wx.cell? ⟨wr.heap.size, 1, none⟩ = some (.int .i64 ((A : Int))) ∧ wx.cell? ⟨wr.heap.size, 2, none⟩ = some (.int .i64 ((Bn : Int))) ∧ wx.cell? ⟨wr.heap.size, 3, none⟩ = some (.int .i64 (m)) ∧ wx.cell? ⟨ga, 0, none⟩ = some (.slice (some ⟨q0, 0, none⟩) (N + 1) c0) ∧ wx.cell? ⟨ga, 1, none⟩ = some (.slice (some ⟨q1, 0, none⟩) (N + 1) c1))
                (simp (maxDischargeDepth := 12) [go_sem, le1, lt1, *])
                (first
                | (go_at_call 35; refine (unhide HTI _ (unhide HAXR)).mono ?_; rintro e W6 ⟨rfl, hr6, hb6⟩; have HAX6 := hide (Axes.y (unhide HAXR) hb6 hr6); have HBT := hide hb6; have sc0 := but_cell hb6 (b := wr.heap.size) (o := 0) (v := .int .i64 (2)) (by omega) rc0; have sc1 := but_cell hb6 (b := wr.heap.size) (o := 1) (v := .int .i64 (A : Int)) (by omega) rc1; have sc2 := but_cell hb6 (b := wr.heap.size) (o := 2) (v := .int .i64 (Bn : Int)) (by omega) rc2; have sc3 := but_cell hb6 (b := wr.heap.size) (o := 3) (v := .int .i64 m) (by omega) rc3; have sc4 := but_cell hb6 (b := ga) (o := 0) (v := .slice (some ⟨q0, 0, none⟩) (N + 1) c0) (by omega) rc4; have sc5 := but_cell hb6 (b := ga) (o := 1) (v := .slice (some ⟨q1, 0, none⟩) (N + 1) c1) (by omega) rc5; clear hr6 hb6))
              all_goals
                have HR7 : Hid (Row W6 bs 3 1 u10 sp.length (nats sp)) := hide ((unhide HRj).kept (B' := 0) (fun g hg => by have h7 := World.ownsRow.lt (unhide HRj) g hg; exact ((unhide HBT).block g (by omega)).trans (Below.heap_alloc _ _ _ h7.2)))
                have d0 : W6.cell? ⟨w.heap.size, 0, none⟩ = some (.int .i64 (N : Int)) := but_cell (unhide HBT) (b := w.heap.size) (o := 0) (v := .int .i64 (N : Int)) (by omega) (ka b0)
                have d1 : W6.cell? ⟨w.heap.size, 1, none⟩ = some (.slice (some ⟨p, po, none⟩) l c) := but_cell (unhide HBT) (b := w.heap.size) (o := 1) (v := .slice (some ⟨p, po, none⟩) l c) (by omega) (ka b1)
                have HB6 : Hid (Below W2.heap.size W2 W6) := hide (((unhide HBj).alloc (by omega) _).drew.trans ((unhide HBT).bel gq1))
                have sz6 : wr.heap.size + 1 = W6.heap.size := by have := (unhide HBT).size; simpa using this
                clear sc0 sc1 sc2 sc3 sc4 sc5 HBT
                cases nb with
                | true =>
                  have HNX : Hid (frTo N rs (j + 1) = ((la2, f2), sp)) := hide (unhide HNX0)
                  go_wp2_with fail
                  go_roundw
                  case rel =>
                    repeat apply Exists.intro
                    refine ⟨?_, rfl⟩
                    exact ⟨j + 1, _, _, sp, _, _, _, _, _, _, by simp, hjl, unhide HNX, unhide HST2, unhide HAX6, unhide HR7, by omega, d0, d1, unhide HB6, by omega⟩
                  case measure => first | (simp only [intOf]; omega) | (simp [intOf]; omega)
                | false =>
                  have HNX : Hid (frTo N rs (j + 1) = ((la2, f2), sp ++ [j])) := hide (unhide HNX0)
                  go_wp2_with (at_builtin; refine unhide ?_)
                  refine hide ?_
                  refine wpList_append_own _ rfl _ _ 28 rfl bs 3 i0 _ 1 8 Try.underlying28 hi hz0 hz1 hz2 rfl (by decide) _ _ _ rfl ((unhide HR7).alloc _) _ 1 1 ([(j : Int)].map (Value.int .i64)) rfl rfl (by first | exact news_cells _ _ (by simp) | exact news_drew _ _ (by simp)) ints_one (by unfold maxLen; omega) (by omega) (by simp; omega) ?_
                  intro v' w1 hown' hgrow _
                  have R := hide (own_more (wr := W6) (news := [(j : Int)]) (by repeat (first | exact Below.refl _ _ | refine Below.alloc ?_ (by first | omega | (simp; omega)) _ | refine Below.drew ?_)) (by simp; omega) (unhide HR7) hown' hgrow)
                  clear hown' hgrow
                  go_wp2_with fail
                  go_roundw
                  case rel =>
                    repeat apply Exists.intro
                    refine ⟨?_, rfl⟩
                    have hbl := (unhide R).2
                    have hA := unhide HAX6
                    refine ⟨j + 1, _, _, sp ++ [j], _, _, _, _, _, _, by simp, hjl, unhide HNX, unhide HST2, ⟨(hbl.block ga (by omega)).trans hA.ax, hA.r0.at_g (hbl.block q0 (by omega)), hA.r1.at_g (hbl.block q1 (by omega)), hA.ne, hA.bg⟩, ?_, by simp; omega, (hbl.cell (p := ⟨w.heap.size, 0, none⟩) (show w.heap.size < bs by omega)).trans (d0), (hbl.cell (p := ⟨w.heap.size, 1, none⟩) (show w.heap.size < bs by omega)).trans (d1), (unhide HB6).trans (hbl.mono (by omega)), by have := hbl.size; omega⟩
                    have h1 := (unhide R).1
                    have e1 : nats (sp ++ [j]) = nats sp ++ [(j : Int)] := by simp [nats]
                    rw [e1, List.length_append]
                    exact h1
                  case measure => first | (simp only [intOf]; omega) | (simp [intOf]; omega)
            · skip
              have hBn : Bn < N := by simp at g3; omega
              have HTI := hide (fun W (hW : Axes W W2.heap.size ga q0 c0 q1 c1 (N + 1) Gx Gy) => tieM_any W2.heap.size (N + 1) q0 c0 A Bn Gx cx dx W (by omega) (by omega) (by omega) (hide (unhide HST).fx) (hide hW.r0))
              have hST2 := (unhide HST).tieX (a := A) (b := Bn) (by omega) (by omega)
              have HST2 := hide hST2.1
              have HNB := hide hST2.2
              have HNX0 : Hid (frTo N rs (j + 1) = ((tieL (la, f) (plc N 1 (A)) (plc N 1 (Bn))).1, if (tieL (la, f) (plc N 1 (A)) (plc N 1 (Bn))).2 = true then sp else sp ++ [j])) := hide (by
                have h5 := unhide HNXT
                rw [ruleL_x (N := N) (la, f) 3 (A : Int) (Bn : Int) m (.inl rfl) (by omega) (by omega)] at h5
                simp only [Int.toNat_natCast] at h5
                exact h5)
              clear hST2 HNXT
              rw [unhide HNB] at HNX0
              clear HNB
              generalize tieL (la, f) (plc N 1 (A)) (plc N 1 (Bn)) = TT at *
              obtain ⟨⟨la2, f2⟩, nb0⟩ := TT
              generalize (!decide (cx (A) = cx (Bn))) = nb at *
              have rc0 : (wr.alloc (.cells #[.int .i64 3, .int .i64 (A : Int), .int .i64 (Bn : Int), .int .i64 m] 35)).cell? ⟨wr.heap.size, 0, none⟩ = some (.int .i64 3) := by simp [go_sem]
              have rc1 : (wr.alloc (.cells #[.int .i64 3, .int .i64 (A : Int), .int .i64 (Bn : Int), .int .i64 m] 35)).cell? ⟨wr.heap.size, 1, none⟩ = some (.int .i64 (A : Int)) := by simp [go_sem]
              have rc2 : (wr.alloc (.cells #[.int .i64 3, .int .i64 (A : Int), .int .i64 (Bn : Int), .int .i64 m] 35)).cell? ⟨wr.heap.size, 2, none⟩ = some (.int .i64 (Bn : Int)) := by simp [go_sem]
              have rc3 : (wr.alloc (.cells #[.int .i64 3, .int .i64 (A : Int), .int .i64 (Bn : Int), .int .i64 m] 35)).cell? ⟨wr.heap.size, 3, none⟩ = some (.int .i64 m) := by simp [go_sem]
              have rc4 := ka (o := .cells #[.int .i64 3, .int .i64 (A : Int), .int .i64 (Bn : Int), .int .i64 m] 35) x0
              have rc5 := ka (o := .cells #[.int .i64 3, .int .i64 (A : Int), .int .i64 (Bn : Int), .int .i64 m] 35) x1
              have HAXR := hide ((unhide HAXj).up (.cells #[.int .i64 3, .int .i64 (A : Int), .int .i64 (Bn : Int), .int .i64 m] 35)).drew
              have wk0 : IntKind.i64.wrap 0 = 0 := by decide
              have wk1 : IntKind.i64.wrap 1 = 1 := by decide
              go_wp2_with fail
              go_region_held3 (fun wx => wx.cell? ⟨wr.heap.size, 0, none⟩ = some (.int .i64 (3)) ∧ wx.cell? ⟨wr.heap.size, 1, none⟩ = some (.int .i64 ((A : Int))) ∧ wx.cell? ⟨wr.heap.size, 2, none⟩ = some (.int .i64 ((Bn : Int))) ∧ wx.cell? ⟨wr.heap.size, 3, none⟩ = some (.int .i64 (m)) ∧ wx.cell? ⟨ga, 0, none⟩ = some (.slice (some ⟨q0, 0, none⟩) (N + 1) c0) ∧ wx.cell? ⟨ga, 1, none⟩ = some (.slice (some ⟨q1, 0, none⟩) (N + 1) c1))
                (simp (maxDischargeDepth := 12) [go_sem, le1, lt1, *])
                (first
                | (go_at_call 35; refine (unhide HTI _ (unhide HAXR)).mono ?_; rintro e W6 ⟨rfl, hr6, hb6⟩; have HAX6 := hide (Axes.x (unhide HAXR) hb6 hr6); have HBT := hide hb6; have sc0 := but_cell hb6 (b := wr.heap.size) (o := 0) (v := .int .i64 (3)) (by omega) rc0; have sc1 := but_cell hb6 (b := wr.heap.size) (o := 1) (v := .int .i64 (A : Int)) (by omega) rc1; have sc2 := but_cell hb6 (b := wr.heap.size) (o := 2) (v := .int .i64 (Bn : Int)) (by omega) rc2; have sc3 := but_cell hb6 (b := wr.heap.size) (o := 3) (v := .int .i64 m) (by omega) rc3; have sc4 := but_cell hb6 (b := ga) (o := 0) (v := .slice (some ⟨q0, 0, none⟩) (N + 1) c0) (by omega) rc4; have sc5 := but_cell hb6 (b := ga) (o := 1) (v := .slice (some ⟨q1, 0, none⟩) (N + 1) c1) (by omega) rc5; clear hr6 hb6))
              all_goals
                have HR7 : Hid (Row W6 bs 3 1 u10 sp.length (nats sp)) := hide ((unhide HRj).kept (B' := 0) (fun g hg => by have h7 := World.ownsRow.lt (unhide HRj) g hg; exact ((unhide HBT).block g (by omega)).trans (Below.heap_alloc _ _ _ h7.2)))
                have d0 : W6.cell? ⟨w.heap.size, 0, none⟩ = some (.int .i64 (N : Int)) := but_cell (unhide HBT) (b := w.heap.size) (o := 0) (v := .int .i64 (N : Int)) (by omega) (ka b0)
                have d1 : W6.cell? ⟨w.heap.size, 1, none⟩ = some (.slice (some ⟨p, po, none⟩) l c) := but_cell (unhide HBT) (b := w.heap.size) (o := 1) (v := .slice (some ⟨p, po, none⟩) l c) (by omega) (ka b1)
                have HB6 : Hid (Below W2.heap.size W2 W6) := hide (((unhide HBj).alloc (by omega) _).drew.trans ((unhide HBT).bel gq0))
                have sz6 : wr.heap.size + 1 = W6.heap.size := by have := (unhide HBT).size; simpa using this
                clear sc0 sc1 sc2 sc3 sc4 sc5 HBT
                cases nb with
                | true =>
                  have HNX : Hid (frTo N rs (j + 1) = ((la2, f2), sp)) := hide (unhide HNX0)
                  go_wp2_with fail
                  go_roundw
                  case rel =>
                    repeat apply Exists.intro
                    refine ⟨?_, rfl⟩
                    exact ⟨j + 1, _, _, sp, _, _, _, _, _, _, by simp, hjl, unhide HNX, unhide HST2, unhide HAX6, unhide HR7, by omega, d0, d1, unhide HB6, by omega⟩
                  case measure => first | (simp only [intOf]; omega) | (simp [intOf]; omega)
                | false =>
                  have HNX : Hid (frTo N rs (j + 1) = ((la2, f2), sp ++ [j])) := hide (unhide HNX0)
                  go_wp2_with (at_builtin; refine unhide ?_)
                  refine hide ?_
                  refine wpList_append_own _ rfl _ _ 28 rfl bs 3 i0 _ 1 8 Try.underlying28 hi hz0 hz1 hz2 rfl (by decide) _ _ _ rfl ((unhide HR7).alloc _) _ 1 1 ([(j : Int)].map (Value.int .i64)) rfl rfl (by first | exact news_cells _ _ (by simp) | exact news_drew _ _ (by simp)) ints_one (by unfold maxLen; omega) (by omega) (by simp; omega) ?_
                  intro v' w1 hown' hgrow _
                  have R := hide (own_more (wr := W6) (news := [(j : Int)]) (by repeat (first | exact Below.refl _ _ | refine Below.alloc ?_ (by first | omega | (simp; omega)) _ | refine Below.drew ?_)) (by simp; omega) (unhide HR7) hown' hgrow)
                  clear hown' hgrow
                  go_wp2_with fail
                  go_roundw
                  case rel =>
                    repeat apply Exists.intro
                    refine ⟨?_, rfl⟩
                    have hbl := (unhide R).2
                    have hA := unhide HAX6
                    refine ⟨j + 1, _, _, sp ++ [j], _, _, _, _, _, _, by simp, hjl, unhide HNX, unhide HST2, ⟨(hbl.block ga (by omega)).trans hA.ax, hA.r0.at_g (hbl.block q0 (by omega)), hA.r1.at_g (hbl.block q1 (by omega)), hA.ne, hA.bg⟩, ?_, by simp; omega, (hbl.cell (p := ⟨w.heap.size, 0, none⟩) (show w.heap.size < bs by omega)).trans (d0), (hbl.cell (p := ⟨w.heap.size, 1, none⟩) (show w.heap.size < bs by omega)).trans (d1), (unhide HB6).trans (hbl.mono (by omega)), by have := hbl.size; omega⟩
                    have h1 := (unhide R).1
                    have e1 : nats (sp ++ [j]) = nats sp ++ [(j : Int)] := by simp [nats]
                    rw [e1, List.length_append]
                    exact h1
                  case measure => first | (simp only [intOf]; omega) | (simp [intOf]; omega)
            · skip
              have hBn : Bn < N := by simp at g3; omega
              have HTI := hide (fun W (hW : Axes W W2.heap.size ga q0 c0 q1 c1 (N + 1) Gx Gy) => tieM_any W2.heap.size (N + 1) q1 c1 A Bn Gy cy dy W (by omega) (by omega) (by omega) (hide (unhide HST).fy) (hide hW.r1))
              have hST2 := (unhide HST).tieY (a := A) (b := Bn) (by omega) (by omega)
              have HST2 := hide hST2.1
              have HNB := hide hST2.2
              have HNX0 : Hid (frTo N rs (j + 1) = ((tieL (la, f) (plc N 2 (A)) (plc N 2 (Bn))).1, if (tieL (la, f) (plc N 2 (A)) (plc N 2 (Bn))).2 = true then sp else sp ++ [j])) := hide (by
                have h5 := unhide HNXT
                rw [ruleL_y (N := N) (la, f) 4 (A : Int) (Bn : Int) m (.inl rfl) (by omega) (by omega)] at h5
                simp only [Int.toNat_natCast] at h5
                exact h5)
              clear hST2 HNXT
              rw [unhide HNB] at HNX0
              clear HNB
              generalize tieL (la, f) (plc N 2 (A)) (plc N 2 (Bn)) = TT at *
              obtain ⟨⟨la2, f2⟩, nb0⟩ := TT
              generalize (!decide (cy (A) = cy (Bn))) = nb at *
              have rc0 : (wr.alloc (.cells #[.int .i64 4, .int .i64 (A : Int), .int .i64 (Bn : Int), .int .i64 m] 35)).cell? ⟨wr.heap.size, 0, none⟩ = some (.int .i64 4) := by simp [go_sem]
              have rc1 : (wr.alloc (.cells #[.int .i64 4, .int .i64 (A : Int), .int .i64 (Bn : Int), .int .i64 m] 35)).cell? ⟨wr.heap.size, 1, none⟩ = some (.int .i64 (A : Int)) := by simp [go_sem]
              have rc2 : (wr.alloc (.cells #[.int .i64 4, .int .i64 (A : Int), .int .i64 (Bn : Int), .int .i64 m] 35)).cell? ⟨wr.heap.size, 2, none⟩ = some (.int .i64 (Bn : Int)) := by simp [go_sem]
              have rc3 : (wr.alloc (.cells #[.int .i64 4, .int .i64 (A : Int), .int .i64 (Bn : Int), .int .i64 m] 35)).cell? ⟨wr.heap.size, 3, none⟩ = some (.int .i64 m) := by simp [go_sem]
              have rc4 := ka (o := .cells #[.int .i64 4, .int .i64 (A : Int), .int .i64 (Bn : Int), .int .i64 m] 35) x0
              have rc5 := ka (o := .cells #[.int .i64 4, .int .i64 (A : Int), .int .i64 (Bn : Int), .int .i64 m] 35) x1
              have HAXR := hide ((unhide HAXj).up (.cells #[.int .i64 4, .int .i64 (A : Int), .int .i64 (Bn : Int), .int .i64 m] 35)).drew
              have wk0 : IntKind.i64.wrap 0 = 0 := by decide
              have wk1 : IntKind.i64.wrap 1 = 1 := by decide
              go_wp2_with fail
              go_region_held3 (fun wx => wx.cell? ⟨wr.heap.size, 0, none⟩ = some (.int .i64 (4)) ∧ wx.cell? ⟨wr.heap.size, 1, none⟩ = some (.int .i64 ((A : Int))) ∧ wx.cell? ⟨wr.heap.size, 2, none⟩ = some (.int .i64 ((Bn : Int))) ∧ wx.cell? ⟨wr.heap.size, 3, none⟩ = some (.int .i64 (m)) ∧ wx.cell? ⟨ga, 0, none⟩ = some (.slice (some ⟨q0, 0, none⟩) (N + 1) c0) ∧ wx.cell? ⟨ga, 1, none⟩ = some (.slice (some ⟨q1, 0, none⟩) (N + 1) c1))
                (simp (maxDischargeDepth := 12) [go_sem, le1, lt1, *])
                (first
                | (go_at_call 35; refine (unhide HTI _ (unhide HAXR)).mono ?_; rintro e W6 ⟨rfl, hr6, hb6⟩; have HAX6 := hide (Axes.y (unhide HAXR) hb6 hr6); have HBT := hide hb6; have sc0 := but_cell hb6 (b := wr.heap.size) (o := 0) (v := .int .i64 (4)) (by omega) rc0; have sc1 := but_cell hb6 (b := wr.heap.size) (o := 1) (v := .int .i64 (A : Int)) (by omega) rc1; have sc2 := but_cell hb6 (b := wr.heap.size) (o := 2) (v := .int .i64 (Bn : Int)) (by omega) rc2; have sc3 := but_cell hb6 (b := wr.heap.size) (o := 3) (v := .int .i64 m) (by omega) rc3; have sc4 := but_cell hb6 (b := ga) (o := 0) (v := .slice (some ⟨q0, 0, none⟩) (N + 1) c0) (by omega) rc4; have sc5 := but_cell hb6 (b := ga) (o := 1) (v := .slice (some ⟨q1, 0, none⟩) (N + 1) c1) (by omega) rc5; clear hr6 hb6))
              all_goals
                have HR7 : Hid (Row W6 bs 3 1 u10 sp.length (nats sp)) := hide ((unhide HRj).kept (B' := 0) (fun g hg => by have h7 := World.ownsRow.lt (unhide HRj) g hg; exact ((unhide HBT).block g (by omega)).trans (Below.heap_alloc _ _ _ h7.2)))
                have d0 : W6.cell? ⟨w.heap.size, 0, none⟩ = some (.int .i64 (N : Int)) := but_cell (unhide HBT) (b := w.heap.size) (o := 0) (v := .int .i64 (N : Int)) (by omega) (ka b0)
                have d1 : W6.cell? ⟨w.heap.size, 1, none⟩ = some (.slice (some ⟨p, po, none⟩) l c) := but_cell (unhide HBT) (b := w.heap.size) (o := 1) (v := .slice (some ⟨p, po, none⟩) l c) (by omega) (ka b1)
                have HB6 : Hid (Below W2.heap.size W2 W6) := hide (((unhide HBj).alloc (by omega) _).drew.trans ((unhide HBT).bel gq1))
                have sz6 : wr.heap.size + 1 = W6.heap.size := by have := (unhide HBT).size; simpa using this
                clear sc0 sc1 sc2 sc3 sc4 sc5 HBT
                cases nb with
                | true =>
                  have HNX : Hid (frTo N rs (j + 1) = ((la2, f2), sp)) := hide (unhide HNX0)
                  go_wp2_with fail
                  go_roundw
                  case rel =>
                    repeat apply Exists.intro
                    refine ⟨?_, rfl⟩
                    exact ⟨j + 1, _, _, sp, _, _, _, _, _, _, by simp, hjl, unhide HNX, unhide HST2, unhide HAX6, unhide HR7, by omega, d0, d1, unhide HB6, by omega⟩
                  case measure => first | (simp only [intOf]; omega) | (simp [intOf]; omega)
                | false =>
                  have HNX : Hid (frTo N rs (j + 1) = ((la2, f2), sp ++ [j])) := hide (unhide HNX0)
                  go_wp2_with (at_builtin; refine unhide ?_)
                  refine hide ?_
                  refine wpList_append_own _ rfl _ _ 28 rfl bs 3 i0 _ 1 8 Try.underlying28 hi hz0 hz1 hz2 rfl (by decide) _ _ _ rfl ((unhide HR7).alloc _) _ 1 1 ([(j : Int)].map (Value.int .i64)) rfl rfl (by first | exact news_cells _ _ (by simp) | exact news_drew _ _ (by simp)) ints_one (by unfold maxLen; omega) (by omega) (by simp; omega) ?_
                  intro v' w1 hown' hgrow _
                  have R := hide (own_more (wr := W6) (news := [(j : Int)]) (by repeat (first | exact Below.refl _ _ | refine Below.alloc ?_ (by first | omega | (simp; omega)) _ | refine Below.drew ?_)) (by simp; omega) (unhide HR7) hown' hgrow)
                  clear hown' hgrow
                  go_wp2_with fail
                  go_roundw
                  case rel =>
                    repeat apply Exists.intro
                    refine ⟨?_, rfl⟩
                    have hbl := (unhide R).2
                    have hA := unhide HAX6
                    refine ⟨j + 1, _, _, sp ++ [j], _, _, _, _, _, _, by simp, hjl, unhide HNX, unhide HST2, ⟨(hbl.block ga (by omega)).trans hA.ax, hA.r0.at_g (hbl.block q0 (by omega)), hA.r1.at_g (hbl.block q1 (by omega)), hA.ne, hA.bg⟩, ?_, by simp; omega, (hbl.cell (p := ⟨w.heap.size, 0, none⟩) (show w.heap.size < bs by omega)).trans (d0), (hbl.cell (p := ⟨w.heap.size, 1, none⟩) (show w.heap.size < bs by omega)).trans (d1), (unhide HB6).trans (hbl.mono (by omega)), by have := hbl.size; omega⟩
                    have h1 := (unhide R).1
                    have e1 : nats (sp ++ [j]) = nats sp ++ [(j : Int)] := by simp [nats]
                    rw [e1, List.length_append]
                    exact h1
                  case measure => first | (simp only [intOf]; omega) | (simp [intOf]; omega)
            · skip
              have HNX : Hid (frTo N rs (j + 1) = ((la, f), sp)) := hide (by have h5 := unhide HNXT; rw [ruleL_l (la, f) 5 (A : Int) (Bn : Int) m (.inl rfl)] at h5; exact h5)
              go_wp2_with fail
              go_roundw
              case rel =>
                first
                | exact ⟨j + 1, _, _, sp, _, _, _, _, _, _, by simp, hjl, unhide HNX, unhide HST, (unhide HAXj).up _, (unhide HRj).below (ba (Below.refl _ _) _), by omega, ka b0, ka b1, (unhide HBj).alloc (by omega) _, by simp; omega⟩
                | (repeat apply Exists.intro
                   refine ⟨?_, rfl⟩
                   exact ⟨j + 1, _, _, sp, _, _, _, _, _, _, by simp, hjl, unhide HNX, unhide HST, (unhide HAXj).up _, (unhide HRj).below (ba (Below.refl _ _) _), by omega, ka b0, ka b1, (unhide HBj).alloc (by omega) _, by simp; omega⟩)
              case measure => first | (simp only [intOf]; omega) | (simp [intOf]; omega)
            · skip
              have HNX : Hid (frTo N rs (j + 1) = ((la, f), sp)) := hide (by have h5 := unhide HNXT; rw [ruleL_l (la, f) 6 (A : Int) (Bn : Int) m (.inr rfl)] at h5; exact h5)
              go_wp2_with fail
              go_roundw
              case rel =>
                first
                | exact ⟨j + 1, _, _, sp, _, _, _, _, _, _, by simp, hjl, unhide HNX, unhide HST, (unhide HAXj).up _, (unhide HRj).below (ba (Below.refl _ _) _), by omega, ka b0, ka b1, (unhide HBj).alloc (by omega) _, by simp; omega⟩
                | (repeat apply Exists.intro
                   refine ⟨?_, rfl⟩
                   exact ⟨j + 1, _, _, sp, _, _, _, _, _, _, by simp, hjl, unhide HNX, unhide HST, (unhide HAXj).up _, (unhide HRj).below (ba (Below.refl _ _) _), by omega, ka b0, ka b1, (unhide HBj).alloc (by omega) _, by simp; omega⟩)
              case measure => first | (simp only [intOf]; omega) | (simp [intOf]; omega)
            · skip
              have hBn : Bn < N := by simp at g3; omega
              have HTI := hide (fun W (hW : Axes W W2.heap.size ga q0 c0 q1 c1 (N + 1) Gx Gy) => tieM_any W2.heap.size (N + 1) q0 c0 A Bn Gx cx dx W (by omega) (by omega) (by omega) (hide (unhide HST).fx) (hide hW.r0))
              have hST2 := (unhide HST).tieX (a := A) (b := Bn) (by omega) (by omega)
              have HST2 := hide hST2.1
              have HNB := hide hST2.2
              have HNX0 : Hid (frTo N rs (j + 1) = ((tieL (la, f) (plc N 1 (A)) (plc N 1 (Bn))).1, if (tieL (la, f) (plc N 1 (A)) (plc N 1 (Bn))).2 = true then sp else sp ++ [j])) := hide (by
                have h5 := unhide HNXT
                rw [ruleL_x (N := N) (la, f) 7 (A : Int) (Bn : Int) m (.inr rfl) (by omega) (by omega)] at h5
                simp only [Int.toNat_natCast] at h5
                exact h5)
              clear hST2 HNXT
              rw [unhide HNB] at HNX0
              clear HNB
              generalize tieL (la, f) (plc N 1 (A)) (plc N 1 (Bn)) = TT at *
              obtain ⟨⟨la2, f2⟩, nb0⟩ := TT
              generalize (!decide (cx (A) = cx (Bn))) = nb at *
              have rc0 : (wr.alloc (.cells #[.int .i64 7, .int .i64 (A : Int), .int .i64 (Bn : Int), .int .i64 m] 35)).cell? ⟨wr.heap.size, 0, none⟩ = some (.int .i64 7) := by simp [go_sem]
              have rc1 : (wr.alloc (.cells #[.int .i64 7, .int .i64 (A : Int), .int .i64 (Bn : Int), .int .i64 m] 35)).cell? ⟨wr.heap.size, 1, none⟩ = some (.int .i64 (A : Int)) := by simp [go_sem]
              have rc2 : (wr.alloc (.cells #[.int .i64 7, .int .i64 (A : Int), .int .i64 (Bn : Int), .int .i64 m] 35)).cell? ⟨wr.heap.size, 2, none⟩ = some (.int .i64 (Bn : Int)) := by simp [go_sem]
              have rc3 : (wr.alloc (.cells #[.int .i64 7, .int .i64 (A : Int), .int .i64 (Bn : Int), .int .i64 m] 35)).cell? ⟨wr.heap.size, 3, none⟩ = some (.int .i64 m) := by simp [go_sem]
              have rc4 := ka (o := .cells #[.int .i64 7, .int .i64 (A : Int), .int .i64 (Bn : Int), .int .i64 m] 35) x0
              have rc5 := ka (o := .cells #[.int .i64 7, .int .i64 (A : Int), .int .i64 (Bn : Int), .int .i64 m] 35) x1
              have HAXR := hide ((unhide HAXj).up (.cells #[.int .i64 7, .int .i64 (A : Int), .int .i64 (Bn : Int), .int .i64 m] 35)).drew
              have wk0 : IntKind.i64.wrap 0 = 0 := by decide
              have wk1 : IntKind.i64.wrap 1 = 1 := by decide
              go_wp2_with fail
              go_region_held3 (fun wx => wx.cell? ⟨wr.heap.size, 0, none⟩ = some (.int .i64 (7)) ∧ wx.cell? ⟨wr.heap.size, 1, none⟩ = some (.int .i64 ((A : Int))) ∧ wx.cell? ⟨wr.heap.size, 2, none⟩ = some (.int .i64 ((Bn : Int))) ∧ wx.cell? ⟨wr.heap.size, 3, none⟩ = some (.int .i64 (m)) ∧ wx.cell? ⟨ga, 0, none⟩ = some (.slice (some ⟨q0, 0, none⟩) (N + 1) c0) ∧ wx.cell? ⟨ga, 1, none⟩ = some (.slice (some ⟨q1, 0, none⟩) (N + 1) c1))
                (simp (maxDischargeDepth := 12) [go_sem, le1, lt1, *])
                (first
                | (go_at_call 35; refine (unhide HTI _ (unhide HAXR)).mono ?_; rintro e W6 ⟨rfl, hr6, hb6⟩; have HAX6 := hide (Axes.x (unhide HAXR) hb6 hr6); have HBT := hide hb6; have sc0 := but_cell hb6 (b := wr.heap.size) (o := 0) (v := .int .i64 (7)) (by omega) rc0; have sc1 := but_cell hb6 (b := wr.heap.size) (o := 1) (v := .int .i64 (A : Int)) (by omega) rc1; have sc2 := but_cell hb6 (b := wr.heap.size) (o := 2) (v := .int .i64 (Bn : Int)) (by omega) rc2; have sc3 := but_cell hb6 (b := wr.heap.size) (o := 3) (v := .int .i64 m) (by omega) rc3; have sc4 := but_cell hb6 (b := ga) (o := 0) (v := .slice (some ⟨q0, 0, none⟩) (N + 1) c0) (by omega) rc4; have sc5 := but_cell hb6 (b := ga) (o := 1) (v := .slice (some ⟨q1, 0, none⟩) (N + 1) c1) (by omega) rc5; clear hr6 hb6))
              all_goals
                have HR7 : Hid (Row W6 bs 3 1 u10 sp.length (nats sp)) := hide ((unhide HRj).kept (B' := 0) (fun g hg => by have h7 := World.ownsRow.lt (unhide HRj) g hg; exact ((unhide HBT).block g (by omega)).trans (Below.heap_alloc _ _ _ h7.2)))
                have d0 : W6.cell? ⟨w.heap.size, 0, none⟩ = some (.int .i64 (N : Int)) := but_cell (unhide HBT) (b := w.heap.size) (o := 0) (v := .int .i64 (N : Int)) (by omega) (ka b0)
                have d1 : W6.cell? ⟨w.heap.size, 1, none⟩ = some (.slice (some ⟨p, po, none⟩) l c) := but_cell (unhide HBT) (b := w.heap.size) (o := 1) (v := .slice (some ⟨p, po, none⟩) l c) (by omega) (ka b1)
                have HB6 : Hid (Below W2.heap.size W2 W6) := hide (((unhide HBj).alloc (by omega) _).drew.trans ((unhide HBT).bel gq0))
                have sz6 : wr.heap.size + 1 = W6.heap.size := by have := (unhide HBT).size; simpa using this
                clear sc0 sc1 sc2 sc3 sc4 sc5 HBT
                cases nb with
                | true =>
                  have HNX : Hid (frTo N rs (j + 1) = ((la2, f2), sp)) := hide (unhide HNX0)
                  go_wp2_with fail
                  go_roundw
                  case rel =>
                    repeat apply Exists.intro
                    refine ⟨?_, rfl⟩
                    exact ⟨j + 1, _, _, sp, _, _, _, _, _, _, by simp, hjl, unhide HNX, unhide HST2, unhide HAX6, unhide HR7, by omega, d0, d1, unhide HB6, by omega⟩
                  case measure => first | (simp only [intOf]; omega) | (simp [intOf]; omega)
                | false =>
                  have HNX : Hid (frTo N rs (j + 1) = ((la2, f2), sp ++ [j])) := hide (unhide HNX0)
                  go_wp2_with (at_builtin; refine unhide ?_)
                  refine hide ?_
                  refine wpList_append_own _ rfl _ _ 28 rfl bs 3 i0 _ 1 8 Try.underlying28 hi hz0 hz1 hz2 rfl (by decide) _ _ _ rfl ((unhide HR7).alloc _) _ 1 1 ([(j : Int)].map (Value.int .i64)) rfl rfl (by first | exact news_cells _ _ (by simp) | exact news_drew _ _ (by simp)) ints_one (by unfold maxLen; omega) (by omega) (by simp; omega) ?_
                  intro v' w1 hown' hgrow _
                  have R := hide (own_more (wr := W6) (news := [(j : Int)]) (by repeat (first | exact Below.refl _ _ | refine Below.alloc ?_ (by first | omega | (simp; omega)) _ | refine Below.drew ?_)) (by simp; omega) (unhide HR7) hown' hgrow)
                  clear hown' hgrow
                  go_wp2_with fail
                  go_roundw
                  case rel =>
                    repeat apply Exists.intro
                    refine ⟨?_, rfl⟩
                    have hbl := (unhide R).2
                    have hA := unhide HAX6
                    refine ⟨j + 1, _, _, sp ++ [j], _, _, _, _, _, _, by simp, hjl, unhide HNX, unhide HST2, ⟨(hbl.block ga (by omega)).trans hA.ax, hA.r0.at_g (hbl.block q0 (by omega)), hA.r1.at_g (hbl.block q1 (by omega)), hA.ne, hA.bg⟩, ?_, by simp; omega, (hbl.cell (p := ⟨w.heap.size, 0, none⟩) (show w.heap.size < bs by omega)).trans (d0), (hbl.cell (p := ⟨w.heap.size, 1, none⟩) (show w.heap.size < bs by omega)).trans (d1), (unhide HB6).trans (hbl.mono (by omega)), by have := hbl.size; omega⟩
                    have h1 := (unhide R).1
                    have e1 : nats (sp ++ [j]) = nats sp ++ [(j : Int)] := by simp [nats]
                    rw [e1, List.length_append]
                    exact h1
                  case measure => first | (simp only [intOf]; omega) | (simp [intOf]; omega)
            · skip
              have hBn : Bn < N := by simp at g3; omega
              have HTI := hide (fun W (hW : Axes W W2.heap.size ga q0 c0 q1 c1 (N + 1) Gx Gy) => tieM_any W2.heap.size (N + 1) q1 c1 A Bn Gy cy dy W (by omega) (by omega) (by omega) (hide (unhide HST).fy) (hide hW.r1))
              have hST2 := (unhide HST).tieY (a := A) (b := Bn) (by omega) (by omega)
              have HST2 := hide hST2.1
              have HNB := hide hST2.2
              have HNX0 : Hid (frTo N rs (j + 1) = ((tieL (la, f) (plc N 2 (A)) (plc N 2 (Bn))).1, if (tieL (la, f) (plc N 2 (A)) (plc N 2 (Bn))).2 = true then sp else sp ++ [j])) := hide (by
                have h5 := unhide HNXT
                rw [ruleL_y (N := N) (la, f) 8 (A : Int) (Bn : Int) m (.inr rfl) (by omega) (by omega)] at h5
                simp only [Int.toNat_natCast] at h5
                exact h5)
              clear hST2 HNXT
              rw [unhide HNB] at HNX0
              clear HNB
              generalize tieL (la, f) (plc N 2 (A)) (plc N 2 (Bn)) = TT at *
              obtain ⟨⟨la2, f2⟩, nb0⟩ := TT
              generalize (!decide (cy (A) = cy (Bn))) = nb at *
              have rc0 : (wr.alloc (.cells #[.int .i64 8, .int .i64 (A : Int), .int .i64 (Bn : Int), .int .i64 m] 35)).cell? ⟨wr.heap.size, 0, none⟩ = some (.int .i64 8) := by simp [go_sem]
              have rc1 : (wr.alloc (.cells #[.int .i64 8, .int .i64 (A : Int), .int .i64 (Bn : Int), .int .i64 m] 35)).cell? ⟨wr.heap.size, 1, none⟩ = some (.int .i64 (A : Int)) := by simp [go_sem]
              have rc2 : (wr.alloc (.cells #[.int .i64 8, .int .i64 (A : Int), .int .i64 (Bn : Int), .int .i64 m] 35)).cell? ⟨wr.heap.size, 2, none⟩ = some (.int .i64 (Bn : Int)) := by simp [go_sem]
              have rc3 : (wr.alloc (.cells #[.int .i64 8, .int .i64 (A : Int), .int .i64 (Bn : Int), .int .i64 m] 35)).cell? ⟨wr.heap.size, 3, none⟩ = some (.int .i64 m) := by simp [go_sem]
              have rc4 := ka (o := .cells #[.int .i64 8, .int .i64 (A : Int), .int .i64 (Bn : Int), .int .i64 m] 35) x0
              have rc5 := ka (o := .cells #[.int .i64 8, .int .i64 (A : Int), .int .i64 (Bn : Int), .int .i64 m] 35) x1
              have HAXR := hide ((unhide HAXj).up (.cells #[.int .i64 8, .int .i64 (A : Int), .int .i64 (Bn : Int), .int .i64 m] 35)).drew
              have wk0 : IntKind.i64.wrap 0 = 0 := by decide
              have wk1 : IntKind.i64.wrap 1 = 1 := by decide
              go_wp2_with fail
              go_region_held3 (fun wx => wx.cell? ⟨wr.heap.size, 0, none⟩ = some (.int .i64 (8)) ∧ wx.cell? ⟨wr.heap.size, 1, none⟩ = some (.int .i64 ((A : Int))) ∧ wx.cell? ⟨wr.heap.size, 2, none⟩ = some (.int .i64 ((Bn : Int))) ∧ wx.cell? ⟨wr.heap.size, 3, none⟩ = some (.int .i64 (m)) ∧ wx.cell? ⟨ga, 0, none⟩ = some (.slice (some ⟨q0, 0, none⟩) (N + 1) c0) ∧ wx.cell? ⟨ga, 1, none⟩ = some (.slice (some ⟨q1, 0, none⟩) (N + 1) c1))
                (simp (maxDischargeDepth := 12) [go_sem, le1, lt1, *])
                (first
                | (go_at_call 35; refine (unhide HTI _ (unhide HAXR)).mono ?_; rintro e W6 ⟨rfl, hr6, hb6⟩; have HAX6 := hide (Axes.y (unhide HAXR) hb6 hr6); have HBT := hide hb6; have sc0 := but_cell hb6 (b := wr.heap.size) (o := 0) (v := .int .i64 (8)) (by omega) rc0; have sc1 := but_cell hb6 (b := wr.heap.size) (o := 1) (v := .int .i64 (A : Int)) (by omega) rc1; have sc2 := but_cell hb6 (b := wr.heap.size) (o := 2) (v := .int .i64 (Bn : Int)) (by omega) rc2; have sc3 := but_cell hb6 (b := wr.heap.size) (o := 3) (v := .int .i64 m) (by omega) rc3; have sc4 := but_cell hb6 (b := ga) (o := 0) (v := .slice (some ⟨q0, 0, none⟩) (N + 1) c0) (by omega) rc4; have sc5 := but_cell hb6 (b := ga) (o := 1) (v := .slice (some ⟨q1, 0, none⟩) (N + 1) c1) (by omega) rc5; clear hr6 hb6))
              all_goals
                have HR7 : Hid (Row W6 bs 3 1 u10 sp.length (nats sp)) := hide ((unhide HRj).kept (B' := 0) (fun g hg => by have h7 := World.ownsRow.lt (unhide HRj) g hg; exact ((unhide HBT).block g (by omega)).trans (Below.heap_alloc _ _ _ h7.2)))
                have d0 : W6.cell? ⟨w.heap.size, 0, none⟩ = some (.int .i64 (N : Int)) := but_cell (unhide HBT) (b := w.heap.size) (o := 0) (v := .int .i64 (N : Int)) (by omega) (ka b0)
                have d1 : W6.cell? ⟨w.heap.size, 1, none⟩ = some (.slice (some ⟨p, po, none⟩) l c) := but_cell (unhide HBT) (b := w.heap.size) (o := 1) (v := .slice (some ⟨p, po, none⟩) l c) (by omega) (ka b1)
                have HB6 : Hid (Below W2.heap.size W2 W6) := hide (((unhide HBj).alloc (by omega) _).drew.trans ((unhide HBT).bel gq1))
                have sz6 : wr.heap.size + 1 = W6.heap.size := by have := (unhide HBT).size; simpa using this
                clear sc0 sc1 sc2 sc3 sc4 sc5 HBT
                cases nb with
                | true =>
                  have HNX : Hid (frTo N rs (j + 1) = ((la2, f2), sp)) := hide (unhide HNX0)
                  go_wp2_with fail
                  go_roundw
                  case rel =>
                    repeat apply Exists.intro
                    refine ⟨?_, rfl⟩
                    exact ⟨j + 1, _, _, sp, _, _, _, _, _, _, by simp, hjl, unhide HNX, unhide HST2, unhide HAX6, unhide HR7, by omega, d0, d1, unhide HB6, by omega⟩
                  case measure => first | (simp only [intOf]; omega) | (simp [intOf]; omega)
                | false =>
                  have HNX : Hid (frTo N rs (j + 1) = ((la2, f2), sp ++ [j])) := hide (unhide HNX0)
                  go_wp2_with (at_builtin; refine unhide ?_)
                  refine hide ?_
                  refine wpList_append_own _ rfl _ _ 28 rfl bs 3 i0 _ 1 8 Try.underlying28 hi hz0 hz1 hz2 rfl (by decide) _ _ _ rfl ((unhide HR7).alloc _) _ 1 1 ([(j : Int)].map (Value.int .i64)) rfl rfl (by first | exact news_cells _ _ (by simp) | exact news_drew _ _ (by simp)) ints_one (by unfold maxLen; omega) (by omega) (by simp; omega) ?_
                  intro v' w1 hown' hgrow _
                  have R := hide (own_more (wr := W6) (news := [(j : Int)]) (by repeat (first | exact Below.refl _ _ | refine Below.alloc ?_ (by first | omega | (simp; omega)) _ | refine Below.drew ?_)) (by simp; omega) (unhide HR7) hown' hgrow)
                  clear hown' hgrow
                  go_wp2_with fail
                  go_roundw
                  case rel =>
                    repeat apply Exists.intro
                    refine ⟨?_, rfl⟩
                    have hbl := (unhide R).2
                    have hA := unhide HAX6
                    refine ⟨j + 1, _, _, sp ++ [j], _, _, _, _, _, _, by simp, hjl, unhide HNX, unhide HST2, ⟨(hbl.block ga (by omega)).trans hA.ax, hA.r0.at_g (hbl.block q0 (by omega)), hA.r1.at_g (hbl.block q1 (by omega)), hA.ne, hA.bg⟩, ?_, by simp; omega, (hbl.cell (p := ⟨w.heap.size, 0, none⟩) (show w.heap.size < bs by omega)).trans (d0), (hbl.cell (p := ⟨w.heap.size, 1, none⟩) (show w.heap.size < bs by omega)).trans (d1), (unhide HB6).trans (hbl.mono (by omega)), by have := hbl.size; omega⟩
                    have h1 := (unhide R).1
                    have e1 : nats (sp ++ [j]) = nats sp ++ [(j : Int)] := by simp [nats]
                    rw [e1, List.length_append]
                    exact h1
                  case measure => first | (simp only [intOf]; omega) | (simp [intOf]; omega)
            · skip
              have hBn : Bn < N := by simp at g3; omega
              have hSTx := (unhide HST).tieX (a := A) (b := Bn) (by omega) (by omega)
              have hSTy := hSTx.1.tieY (a := A) (b := Bn) (by omega) (by omega)
              have HTI1 := hide (fun W (hW : Axes W W2.heap.size ga q0 c0 q1 c1 (N + 1) Gx Gy) => tieM_any W2.heap.size (N + 1) q0 c0 A Bn Gx cx dx W (by omega) (by omega) (by omega) (hide (unhide HST).fx) (hide hW.r0))
              have HTI2 := hide (fun W (hW : Axes W W2.heap.size ga q0 c0 q1 c1 (N + 1) (newG Gx cx A Bn) Gy) => tieM_any W2.heap.size (N + 1) q1 c1 A Bn Gy cy dy W (by omega) (by omega) (by omega) (hide (unhide HST).fy) (hide hW.r1))
              have HST2 := hide hSTy.1
              have HN1 := hide hSTx.2
              have HN2 := hide hSTy.2
              have HNX0 : Hid (frTo N rs (j + 1) = ((tieL (tieL (la, f) (plc N 1 A) (plc N 1 Bn)).1 (plc N 2 A) (plc N 2 Bn)).1, if ((tieL (la, f) (plc N 1 A) (plc N 1 Bn)).2 || (tieL (tieL (la, f) (plc N 1 A) (plc N 1 Bn)).1 (plc N 2 A) (plc N 2 Bn)).2) = true then sp else sp ++ [j])) := hide (by
                have h5 := unhide HNXT
                rw [ruleL_9 (N := N) (la, f) (A : Int) (Bn : Int) m (by omega) (by omega)] at h5
                simp only [Int.toNat_natCast] at h5
                exact h5)
              clear hSTx hSTy HNXT
              rw [unhide HN1] at HNX0
              have HN2' : Hid ((tieL (tieL (la, f) (plc N 1 A) (plc N 1 Bn)).1 (plc N 2 A) (plc N 2 Bn)).2 = !decide (cy A = cy Bn)) := HN2
              rw [unhide HN2'] at HNX0
              have HST2' : Hid (St N (newG Gx cx A Bn) (newG Gy cy A Bn) (newC cx A Bn) (newD cx dx A Bn) (newC cy A Bn) (newD cy dy A Bn) (tieL (tieL (la, f) (plc N 1 A) (plc N 1 Bn)).1 (plc N 2 A) (plc N 2 Bn)).1.1 (tieL (tieL (la, f) (plc N 1 A) (plc N 1 Bn)).1 (plc N 2 A) (plc N 2 Bn)).1.2) := HST2
              clear HN1 HN2 HN2' HST2
              generalize tieL (tieL (la, f) (plc N 1 A) (plc N 1 Bn)).1 (plc N 2 A) (plc N 2 Bn) = TT at *
              obtain ⟨⟨la2, f2⟩, nb0⟩ := TT
              generalize (!decide (cx A = cx Bn)) = nb1 at *
              generalize (!decide (cy A = cy Bn)) = nb2 at *
              have rc0 : (wr.alloc (.cells #[.int .i64 9, .int .i64 (A : Int), .int .i64 (Bn : Int), .int .i64 m] 35)).cell? ⟨wr.heap.size, 0, none⟩ = some (.int .i64 9) := by simp [go_sem]
              have rc1 : (wr.alloc (.cells #[.int .i64 9, .int .i64 (A : Int), .int .i64 (Bn : Int), .int .i64 m] 35)).cell? ⟨wr.heap.size, 1, none⟩ = some (.int .i64 (A : Int)) := by simp [go_sem]
              have rc2 : (wr.alloc (.cells #[.int .i64 9, .int .i64 (A : Int), .int .i64 (Bn : Int), .int .i64 m] 35)).cell? ⟨wr.heap.size, 2, none⟩ = some (.int .i64 (Bn : Int)) := by simp [go_sem]
              have rc3 : (wr.alloc (.cells #[.int .i64 9, .int .i64 (A : Int), .int .i64 (Bn : Int), .int .i64 m] 35)).cell? ⟨wr.heap.size, 3, none⟩ = some (.int .i64 m) := by simp [go_sem]
              have rc4 := ka (o := .cells #[.int .i64 9, .int .i64 (A : Int), .int .i64 (Bn : Int), .int .i64 m] 35) x0
              have rc5 := ka (o := .cells #[.int .i64 9, .int .i64 (A : Int), .int .i64 (Bn : Int), .int .i64 m] 35) x1
              have HAXR := hide ((unhide HAXj).up (.cells #[.int .i64 9, .int .i64 (A : Int), .int .i64 (Bn : Int), .int .i64 m] 35)).drew
              go_wp2_with fail
              go_region_held3 (fun wx => wx.cell? ⟨wr.heap.size, 0, none⟩ = some (.int .i64 (9)) ∧ wx.cell? ⟨wr.heap.size, 1, none⟩ = some (.int .i64 ((A : Int))) ∧ wx.cell? ⟨wr.heap.size, 2, none⟩ = some (.int .i64 ((Bn : Int))) ∧ wx.cell? ⟨wr.heap.size, 3, none⟩ = some (.int .i64 (m)) ∧ wx.cell? ⟨ga, 0, none⟩ = some (.slice (some ⟨q0, 0, none⟩) (N + 1) c0) ∧ wx.cell? ⟨ga, 1, none⟩ = some (.slice (some ⟨q1, 0, none⟩) (N + 1) c1))
                (simp (maxDischargeDepth := 12) [go_sem, le1, lt1, *])
                (first
                | (go_at_call 35; refine (unhide HTI1 _ (unhide HAXR)).mono ?_; rintro e W5 ⟨rfl, hr6, hb6⟩; have HAX5 := hide (Axes.x (unhide HAXR) hb6 hr6).drew; have HBT5 := hide hb6; have tc0 := but_cell hb6 (b := wr.heap.size) (o := 0) (v := .int .i64 (9)) (by omega) rc0; have tc1 := but_cell hb6 (b := wr.heap.size) (o := 1) (v := .int .i64 (A : Int)) (by omega) rc1; have tc2 := but_cell hb6 (b := wr.heap.size) (o := 2) (v := .int .i64 (Bn : Int)) (by omega) rc2; have tc3 := but_cell hb6 (b := wr.heap.size) (o := 3) (v := .int .i64 m) (by omega) rc3; have tc4 := but_cell hb6 (b := ga) (o := 0) (v := .slice (some ⟨q0, 0, none⟩) (N + 1) c0) (by omega) rc4; have tc5 := but_cell hb6 (b := ga) (o := 1) (v := .slice (some ⟨q1, 0, none⟩) (N + 1) c1) (by omega) rc5; clear hr6 hb6))
              all_goals
                clear rc0 rc1 rc2 rc3 rc4 rc5
                go_wp2_with fail
                go_region_held3 (fun wx => wx.cell? ⟨wr.heap.size, 0, none⟩ = some (.int .i64 (9)) ∧ wx.cell? ⟨wr.heap.size, 1, none⟩ = some (.int .i64 ((A : Int))) ∧ wx.cell? ⟨wr.heap.size, 2, none⟩ = some (.int .i64 ((Bn : Int))) ∧ wx.cell? ⟨wr.heap.size, 3, none⟩ = some (.int .i64 (m)) ∧ wx.cell? ⟨ga, 0, none⟩ = some (.slice (some ⟨q0, 0, none⟩) (N + 1) c0) ∧ wx.cell? ⟨ga, 1, none⟩ = some (.slice (some ⟨q1, 0, none⟩) (N + 1) c1))
                  (simp (maxDischargeDepth := 12) [go_sem, le1, lt1, *])
                  (first
                  | (go_at_call 35; refine (unhide HTI2 _ (unhide HAX5)).mono ?_; rintro e W6 ⟨rfl, hr6, hb6⟩; have HAX6 := hide (Axes.y (unhide HAX5) hb6 hr6); have HBT := hide hb6; have sc0 := but_cell hb6 (b := wr.heap.size) (o := 0) (v := .int .i64 (9)) (by omega) tc0; have sc1 := but_cell hb6 (b := wr.heap.size) (o := 1) (v := .int .i64 (A : Int)) (by omega) tc1; have sc2 := but_cell hb6 (b := wr.heap.size) (o := 2) (v := .int .i64 (Bn : Int)) (by omega) tc2; have sc3 := but_cell hb6 (b := wr.heap.size) (o := 3) (v := .int .i64 m) (by omega) tc3; have sc4 := but_cell hb6 (b := ga) (o := 0) (v := .slice (some ⟨q0, 0, none⟩) (N + 1) c0) (by omega) tc4; have sc5 := but_cell hb6 (b := ga) (o := 1) (v := .slice (some ⟨q1, 0, none⟩) (N + 1) c1) (by omega) tc5; clear hr6 hb6))
                all_goals
                  have HR7 : Hid (Row W6 bs 3 1 u10 sp.length (nats sp)) := hide ((unhide HRj).kept (B' := 0) (fun g hg => by have h7 := World.ownsRow.lt (unhide HRj) g hg; exact ((unhide HBT).block g (by omega)).trans (((unhide HBT5).block g (by omega)).trans (Below.heap_alloc _ _ _ h7.2))))
                  have d00 : W5.cell? ⟨w.heap.size, 0, none⟩ = some (.int .i64 (N : Int)) := but_cell (unhide HBT5) (b := w.heap.size) (o := 0) (v := .int .i64 (N : Int)) (by omega) (ka b0)
                  have d10 : W5.cell? ⟨w.heap.size, 1, none⟩ = some (.slice (some ⟨p, po, none⟩) l c) := but_cell (unhide HBT5) (b := w.heap.size) (o := 1) (v := .slice (some ⟨p, po, none⟩) l c) (by omega) (ka b1)
                  have d0 : W6.cell? ⟨w.heap.size, 0, none⟩ = some (.int .i64 (N : Int)) := but_cell (unhide HBT) (b := w.heap.size) (o := 0) (v := .int .i64 (N : Int)) (by omega) d00
                  have d1 : W6.cell? ⟨w.heap.size, 1, none⟩ = some (.slice (some ⟨p, po, none⟩) l c) := but_cell (unhide HBT) (b := w.heap.size) (o := 1) (v := .slice (some ⟨p, po, none⟩) l c) (by omega) d10
                  have HB6 : Hid (Below W2.heap.size W2 W6) := hide ((((unhide HBj).alloc (by omega) _).drew.trans ((unhide HBT5).bel gq0)).drew.trans ((unhide HBT).bel gq1))
                  have sz5 : wr.heap.size + 1 = W5.heap.size := by have := (unhide HBT5).size; simpa using this
                  have sz6 : W5.heap.size = W6.heap.size := by have := (unhide HBT).size; simpa using this
                  clear sc0 sc1 sc2 sc3 sc4 sc5 tc0 tc1 tc2 tc3 tc4 tc5 HBT HBT5 d00 d10
                  cases nb1 with
                  | true =>
                    have HNX : Hid (frTo N rs (j + 1) = ((la2, f2), sp)) := hide (unhide HNX0)
                    go_wp2_with fail
                    go_roundw
                    case rel =>
                      repeat apply Exists.intro
                      refine ⟨?_, rfl⟩
                      exact ⟨j + 1, _, _, sp, _, _, _, _, _, _, by simp, hjl, unhide HNX, unhide HST2', unhide HAX6, unhide HR7, by omega, d0, d1, unhide HB6, by omega⟩
                    case measure => first | (simp only [intOf]; omega) | (simp [intOf]; omega)
                  | false =>
                    cases nb2 with
                    | true =>
                      have HNX : Hid (frTo N rs (j + 1) = ((la2, f2), sp)) := hide (unhide HNX0)
                      go_wp2_with fail
                      go_roundw
                      case rel =>
                        repeat apply Exists.intro
                        refine ⟨?_, rfl⟩
                        exact ⟨j + 1, _, _, sp, _, _, _, _, _, _, by simp, hjl, unhide HNX, unhide HST2', unhide HAX6, unhide HR7, by omega, d0, d1, unhide HB6, by omega⟩
                      case measure => first | (simp only [intOf]; omega) | (simp [intOf]; omega)
                    | false =>
                      have HNX : Hid (frTo N rs (j + 1) = ((la2, f2), sp ++ [j])) := hide (unhide HNX0)
                      go_wp2_with (at_builtin; refine unhide ?_)
                      refine hide ?_
                      refine wpList_append_own _ rfl _ _ 28 rfl bs 3 i0 _ 1 8 Try.underlying28 hi hz0 hz1 hz2 rfl (by decide) _ _ _ rfl ((unhide HR7).alloc _) _ 1 1 ([(j : Int)].map (Value.int .i64)) rfl rfl (by first | exact news_cells _ _ (by simp) | exact news_drew _ _ (by simp)) ints_one (by unfold maxLen; omega) (by omega) (by simp; omega) ?_
                      intro v' w1 hown' hgrow _
                      have R := hide (own_more (wr := W6) (news := [(j : Int)]) (by repeat (first | exact Below.refl _ _ | refine Below.alloc ?_ (by first | omega | (simp; omega)) _ | refine Below.drew ?_)) (by simp; omega) (unhide HR7) hown' hgrow)
                      clear hown' hgrow
                      go_wp2_with fail
                      go_roundw
                      case rel =>
                        repeat apply Exists.intro
                        refine ⟨?_, rfl⟩
                        have hbl := (unhide R).2
                        have hA := unhide HAX6
                        refine ⟨j + 1, _, _, sp ++ [j], _, _, _, _, _, _, by simp, hjl, unhide HNX, unhide HST2', ⟨(hbl.block ga (by omega)).trans hA.ax, hA.r0.at_g (hbl.block q0 (by omega)), hA.r1.at_g (hbl.block q1 (by omega)), hA.ne, hA.bg⟩, ?_, by simp; omega, (hbl.cell (p := ⟨w.heap.size, 0, none⟩) (show w.heap.size < bs by omega)).trans (d0), (hbl.cell (p := ⟨w.heap.size, 1, none⟩) (show w.heap.size < bs by omega)).trans (d1), (unhide HB6).trans (hbl.mono (by omega)), by have := hbl.size; omega⟩
                        have h1 := (unhide R).1
                        have e1 : nats (sp ++ [j]) = nats sp ++ [(j : Int)] := by simp [nats]
                        rw [e1, List.length_append]
                        exact h1
                      case measure => first | (simp only [intOf]; omega) | (simp [intOf]; omega)
          · have j1 : ¬ (j : Int) < (l : Int) := by omega
            have jz : decide ((j : Int) < (l : Int)) = false := decide_eq_false j1
            have en : j = l := by omega
            subst en
            have HQF : Hid (FF = ((la, f), sp)) := hide ((unhide HFF).symm.trans (unhide HFR))
            have HGX : Hid (∀ W, Same wr W → ∀ i, i < N + 1 → Calls Try.prog 36 #[.slice (some ⟨q0, 0, none⟩) (N + 1) c0, .int .i64 (i : Int)] W fun e w' => e = .returned (.int .i64 (cx i : Int)) ∧ Same W w') := hide (fun W hW i hi => group_any (N + 1) q0 c0 i Gx cx dx W (by omega) hi (hide (unhide HST).fx) (hide (fun j x hj => (hW.cell _).trans (by rw [Nat.zero_add]; exact (unhide HAXj).r0.cellAt hj))))
            have HGY : Hid (∀ W, Same wr W → ∀ i, i < N + 1 → Calls Try.prog 36 #[.slice (some ⟨q1, 0, none⟩) (N + 1) c1, .int .i64 (i : Int)] W fun e w' => e = .returned (.int .i64 (cy i : Int)) ∧ Same W w') := hide (fun W hW i hi => group_any (N + 1) q1 c1 i Gy cy dy W (by omega) hi (hide (unhide HST).fy) (hide (fun j x hj => (hW.cell _).trans (by rw [Nat.zero_add]; exact (unhide HAXj).r1.cellAt hj))))
            have HC0 : Hid (∀ W, Same wr W → W.cell? ⟨ga, 0, none⟩ = some (.slice (some ⟨q0, 0, none⟩) (N + 1) c0)) := hide (fun W hW => (hW.cell _).trans (unhide HAXj).ax.c0)
            have HC1 : Hid (∀ W, Same wr W → W.cell? ⟨ga, 1, none⟩ = some (.slice (some ⟨q1, 0, none⟩) (N + 1) c1)) := hide (fun W hW => (hW.cell _).trans (unhide HAXj).ax.c1)
            have HFN : Hid (((freeTo N cx N : Nat) : Int) + ((freeTo N cy N : Nat) : Int) = f) := hide (by
              have g1 := free_rts (unhide HST).fx
              have g2 := free_rts (unhide HST).fy
              have g3 := (unhide HST).cnt
              show ((freeOf N cx : Nat) : Int) + ((freeOf N cy : Nat) : Int) = f
              omega)
            have HSL : Hid (Sl wr u10 sp.length (nats sp)) := hide (unhide HRj).sl
            have HBF : Hid (Below w.heap.size w wr) := hide (bc (unhide HB2) (unhide HBj))
            clear HRj HBj HST HAXj HFR
            go_wp2_with fail
            go_loopw [16, 17] (fun v s W => Same wr W ∧ ((v = .int .i64 0 ∧ s = .int .i64 0) ∨ (v = .int .i64 ((freeTo N cx N : Nat) : Int) ∧ s = .int .i64 1) ∨ (v = .int .i64 (((freeTo N cx N : Nat) : Int) + ((freeTo N cy N : Nat) : Int)) ∧ s = .int .i64 2))) (fun _ s _ => 2 - (intOf s).toNat)
            case atStart => exact ⟨Same.refl _, .inl ⟨rfl, rfl⟩⟩
            case round =>
              obtain ⟨hs, h⟩ := hrel
              have HSW := hide hs
              clear hs
              rcases h with ⟨rfl, rfl⟩ | ⟨rfl, rfl⟩ | ⟨rfl, rfl⟩
              · skip
                go_wp2_with fail
                go_loopw [16, 18] (fun v s W => ∃ i : Nat, s = .int .i64 (i : Int) ∧ v = (.int .i64 (((freeTo N cx i : Nat)) : Int)) ∧ i ≤ N ∧ Same wr W) (fun _ s _ => N - (intOf s).toNat)
                case atStart => exact ⟨0, rfl, by simp [freeTo], Nat.zero_le _, Same.refl _⟩
                case round =>
                  obtain ⟨i, rfl, rfl, hiN, hs⟩ := hrel
                  have HS := hide ((unhide HSW).trans hs)
                  have HSo := hide hs
                  clear hs
                  have fle := freeTo_le N cx i
                  have flx := freeTo_le N cx N
                  by_cases h : i < N
                  · have i1 : (i : Int) < (N : Int) := by omega
                    have i0' : (0 : Int) ≤ (i : Int) := Int.natCast_nonneg _
                    have iz : decide ((i : Int) < (N : Int)) = true := decide_eq_true i1
                    have cc := unhide HC0 _ (unhide HS)
                    have HSU := hide (freeTo_succ N cx i)
                    have HCa := hide (fun W hW => unhide HGX W hW i (by omega))
                    have HCb := hide (fun W hW => unhide HGX W hW N (by omega))
                    by_cases e1 : cx i = i
                    · have f1 : (((cx i : Nat) : Int) == (i : Int)) = true := by simp [e1]
                      by_cases e2 : cx N = i
                      · have f2 : (((cx N : Nat) : Int) != (i : Int)) = false := by simp [e2]
                        have HSU2 : Hid (freeTo N cx (i + 1) = freeTo N cx i) := hide (by rw [unhide HSU, if_neg (fun q => q.2 e2)]; rfl)
                        generalize cx i = Ci at *
                        generalize cx N = Cn at *
                        clear e1 e2
                        go_wp2_with fail
                        refine (unhide HCa _ (unhide HS)).mono ?_
                        rintro e Wa ⟨rfl, hsa⟩
                        have HSa := hide ((unhide HS).trans hsa)
                        have HSb := hide ((unhide HSo).trans hsa)
                        have cd := unhide HC0 _ (unhide HSa)
                        clear hsa
                        go_wp2_with fail
                        refine (unhide HCb _ (unhide HSa)).mono ?_
                        rintro e Wb ⟨rfl, hsb⟩
                        have HSc := hide ((unhide HSb).trans hsb)
                        clear hsb
                        go_wp2_with fail
                        go_roundw
                        case rel => exact ⟨i + 1, by simp, by rw [unhide HSU2], h, unhide HSc⟩
                        case measure => first | (simp only [intOf]; omega) | (simp [intOf]; omega)
                      · have f2 : (((cx N : Nat) : Int) != (i : Int)) = true := by simp; omega
                        have HSU2 : Hid (freeTo N cx (i + 1) = freeTo N cx i + 1) := hide (by rw [unhide HSU, if_pos ⟨e1, e2⟩])
                        generalize cx i = Ci at *
                        generalize cx N = Cn at *
                        clear e1 e2
                        go_wp2_with fail
                        refine (unhide HCa _ (unhide HS)).mono ?_
                        rintro e Wa ⟨rfl, hsa⟩
                        have HSa := hide ((unhide HS).trans hsa)
                        have HSb := hide ((unhide HSo).trans hsa)
                        have cd := unhide HC0 _ (unhide HSa)
                        clear hsa
                        go_wp2_with fail
                        refine (unhide HCb _ (unhide HSa)).mono ?_
                        rintro e Wb ⟨rfl, hsb⟩
                        have HSc := hide ((unhide HSb).trans hsb)
                        clear hsb
                        go_wp2_with fail
                        go_roundw
                        case rel => exact ⟨i + 1, by simp, by rw [unhide HSU2]; simp only [Value.int.injEq, true_and]; omega, h, unhide HSc⟩
                        case measure => first | (simp only [intOf]; omega) | (simp [intOf]; omega)
                    · have f1 : (((cx i : Nat) : Int) == (i : Int)) = false := by simp; omega
                      have HSU2 : Hid (freeTo N cx (i + 1) = freeTo N cx i) := hide (by rw [unhide HSU, if_neg (fun q => e1 q.1)]; rfl)
                      generalize cx i = Ci at *
                      clear e1
                      go_wp2_with fail
                      refine (unhide HCa _ (unhide HS)).mono ?_
                      rintro e Wa ⟨rfl, hsa⟩
                      have HSb := hide ((unhide HSo).trans hsa)
                      clear hsa
                      go_wp2_with fail
                      go_roundw
                      case rel => exact ⟨i + 1, by simp, by rw [unhide HSU2], h, unhide HSb⟩
                      case measure => first | (simp only [intOf]; omega) | (simp [intOf]; omega)
                  · have i1 : ¬ (i : Int) < (N : Int) := by omega
                    have iz : decide ((i : Int) < (N : Int)) = false := decide_eq_false i1
                    have en : i = N := by omega
                    subst en
                    go_wp2_with fail
                    go_roundw
                    case rel => exact ⟨unhide HS, .inr (.inl ⟨rfl, rfl⟩)⟩
                    case measure => simp [intOf]
              · skip
                go_wp2_with fail
                go_loopw [16, 18] (fun v s W => ∃ i : Nat, s = .int .i64 (i : Int) ∧ v = (.int .i64 (((freeTo N cx N : Nat) : Int) + ((freeTo N cy i : Nat) : Int))) ∧ i ≤ N ∧ Same wr W) (fun _ s _ => N - (intOf s).toNat)
                case atStart => exact ⟨0, rfl, by simp [freeTo], Nat.zero_le _, Same.refl _⟩
                case round =>
                  obtain ⟨i, rfl, rfl, hiN, hs⟩ := hrel
                  have HS := hide ((unhide HSW).trans hs)
                  have HSo := hide hs
                  clear hs
                  have fle := freeTo_le N cy i
                  have flx := freeTo_le N cx N
                  by_cases h : i < N
                  · have i1 : (i : Int) < (N : Int) := by omega
                    have i0' : (0 : Int) ≤ (i : Int) := Int.natCast_nonneg _
                    have iz : decide ((i : Int) < (N : Int)) = true := decide_eq_true i1
                    have cc := unhide HC1 _ (unhide HS)
                    have HSU := hide (freeTo_succ N cy i)
                    have HCa := hide (fun W hW => unhide HGY W hW i (by omega))
                    have HCb := hide (fun W hW => unhide HGY W hW N (by omega))
                    by_cases e1 : cy i = i
                    · have f1 : (((cy i : Nat) : Int) == (i : Int)) = true := by simp [e1]
                      by_cases e2 : cy N = i
                      · have f2 : (((cy N : Nat) : Int) != (i : Int)) = false := by simp [e2]
                        have HSU2 : Hid (freeTo N cy (i + 1) = freeTo N cy i) := hide (by rw [unhide HSU, if_neg (fun q => q.2 e2)]; rfl)
                        generalize cy i = Ci at *
                        generalize cy N = Cn at *
                        clear e1 e2
                        go_wp2_with fail
                        refine (unhide HCa _ (unhide HS)).mono ?_
                        rintro e Wa ⟨rfl, hsa⟩
                        have HSa := hide ((unhide HS).trans hsa)
                        have HSb := hide ((unhide HSo).trans hsa)
                        have cd := unhide HC1 _ (unhide HSa)
                        clear hsa
                        go_wp2_with fail
                        refine (unhide HCb _ (unhide HSa)).mono ?_
                        rintro e Wb ⟨rfl, hsb⟩
                        have HSc := hide ((unhide HSb).trans hsb)
                        clear hsb
                        go_wp2_with fail
                        go_roundw
                        case rel => exact ⟨i + 1, by simp, by rw [unhide HSU2], h, unhide HSc⟩
                        case measure => first | (simp only [intOf]; omega) | (simp [intOf]; omega)
                      · have f2 : (((cy N : Nat) : Int) != (i : Int)) = true := by simp; omega
                        have HSU2 : Hid (freeTo N cy (i + 1) = freeTo N cy i + 1) := hide (by rw [unhide HSU, if_pos ⟨e1, e2⟩])
                        generalize cy i = Ci at *
                        generalize cy N = Cn at *
                        clear e1 e2
                        go_wp2_with fail
                        refine (unhide HCa _ (unhide HS)).mono ?_
                        rintro e Wa ⟨rfl, hsa⟩
                        have HSa := hide ((unhide HS).trans hsa)
                        have HSb := hide ((unhide HSo).trans hsa)
                        have cd := unhide HC1 _ (unhide HSa)
                        clear hsa
                        go_wp2_with fail
                        refine (unhide HCb _ (unhide HSa)).mono ?_
                        rintro e Wb ⟨rfl, hsb⟩
                        have HSc := hide ((unhide HSb).trans hsb)
                        clear hsb
                        go_wp2_with fail
                        go_roundw
                        case rel => exact ⟨i + 1, by simp, by rw [unhide HSU2]; simp only [Value.int.injEq, true_and]; omega, h, unhide HSc⟩
                        case measure => first | (simp only [intOf]; omega) | (simp [intOf]; omega)
                    · have f1 : (((cy i : Nat) : Int) == (i : Int)) = false := by simp; omega
                      have HSU2 : Hid (freeTo N cy (i + 1) = freeTo N cy i) := hide (by rw [unhide HSU, if_neg (fun q => e1 q.1)]; rfl)
                      generalize cy i = Ci at *
                      clear e1
                      go_wp2_with fail
                      refine (unhide HCa _ (unhide HS)).mono ?_
                      rintro e Wa ⟨rfl, hsa⟩
                      have HSb := hide ((unhide HSo).trans hsa)
                      clear hsa
                      go_wp2_with fail
                      go_roundw
                      case rel => exact ⟨i + 1, by simp, by rw [unhide HSU2], h, unhide HSb⟩
                      case measure => first | (simp only [intOf]; omega) | (simp [intOf]; omega)
                  · have i1 : ¬ (i : Int) < (N : Int) := by omega
                    have iz : decide ((i : Int) < (N : Int)) = false := decide_eq_false i1
                    have en : i = N := by omega
                    subst en
                    go_wp2_with fail
                    go_roundw
                    case rel => exact ⟨unhide HS, .inr (.inr ⟨rfl, rfl⟩)⟩
                    case measure => simp [intOf]
              · have hq := unhide HQF
                subst hq
                have hS := (unhide HSW)
                have hf := unhide HFN
                subst hf
                go_wp2_with fail
                refine bodyPost_ret (v := .tuple #[.int .i64 (((freeTo N cx N : Nat) : Int) + ((freeTo N cy N : Nat) : Int)), u10, .int .i64 0]) (by simp [results, Try.results14, go_sem]) rfl ⟨_, rfl, ?_, (unhide HBF).trans (unhide HSW).bel⟩
                obtain ⟨uu, cap, h1, h2⟩ := unhide HSL
                refine ⟨uu, cap, h1, fun hne => ?_⟩
                obtain ⟨g, h3, h4, h5⟩ := h2 hne
                exact ⟨g, h3, by rw [(unhide HSW).heap]; exact h4, fun j x hj => ((unhide HSW).cell _).trans (h5 j x hj)⟩
end Go.Proofs.Ytchdmigeopmacaa
