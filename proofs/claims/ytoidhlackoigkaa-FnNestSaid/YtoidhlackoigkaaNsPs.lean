/-
  A plate is pushed out of the way of each that it lies over: it comes to the leftmost free place of its level.
-/
import Derived.Test.YtoidhlackoigkaaNsPu
namespace Go.Proofs.Ytoidhlackoigkaa
open Go.ChangeShapes Go.WideShapes Go.ChangeAt Go.RowKit
set_option linter.unusedVariables false
set_option linter.unusedSimpArgs false

/-- sizes and places that a nest may have -/
def Nr (a : Rc) : Prop := (0 ≤ a.x ∧ a.x ≤ 1000000) ∧ (0 ≤ a.y ∧ a.y ≤ 1000000) ∧ (1 ≤ a.w ∧ a.w ≤ 1000) ∧ 1 ≤ a.h ∧ a.h ≤ 1000
theorem Nr.sm {a : Rc} (h : Nr a) : Sm a := by unfold Nr at h; unfold Sm; omega
def rcs (L : List Ld) : List Rc := L.map (·.a)
theorem free_of {L : List Ld} {a : Rc} (h : ∀ l ∈ L, ovr a l.a = false) : free (rcs L) a = true := by
  rw [free_iff]
  intro b hb
  obtain ⟨l, hl, rfl⟩ := List.mem_map.1 hb
  exact h l hl
theorem rights_le {L : List Ld} (h : ∀ l ∈ L, Nr l.a) : ∀ x ∈ rights (rcs L), 0 ≤ x ∧ x ≤ 1001000 := by
  intro x hx
  rcases List.mem_cons.1 hx with rfl | hx
  · omega
  · obtain ⟨b, hb, rfl⟩ := List.mem_map.1 hx
    obtain ⟨l, hl, rfl⟩ := List.mem_map.1 hb
    have := h l hl
    unfold Nr at this
    omega
/-- between two pushes -/
structure Pu (w W : World) (Wd : Int) (u : Option Addr) (n c : Nat) (L : List Ld) (q : Ld) (x : Int) : Prop where
  bel : Below w.heap.size w W
  sz : w.heap.size + 3 ≤ W.heap.size
  ne : vb W w.heap.size 47 [.int .i64 Wd, .slice u n c]
  pl : vb W (w.heap.size + 1) 78 (ldC { q with a := { q.a with x := x } })
  re : vb W (w.heap.size + 2) 78 [.int .i64 0, .int .i64 0, .int .i64 0, .bool false, .int .i64 0, .int .i64 0]
  rt : x ∈ rights (rcs L)
  bl : Blk (rcs L) q.a.w q.a.h q.a.y x
theorem Pu.on {w W W2 : World} {Wd : Int} {u : Option Addr} {n c : Nat} {L : List Ld} {q : Ld} {x : Int} (h : Pu w W Wd u n c L q x) (hb : Below W.heap.size W W2) : Pu w W2 Wd u n c L q x :=
  ⟨bc h.bel hb, Nat.le_trans h.sz hb.size, h.ne.bel hb, h.pl.bel hb, h.re.bel hb, h.rt, h.bl⟩
set_option maxHeartbeats 4000000 in
theorem puP_any (Wd : Int) (u : Option Addr) (b po n c : Nat) (L : List Ld) (q : Ld) (w : World) (hl : L.length = n) (hn : n ≤ 4096) (hu : Lds w u b po L) (hs : ∀ l ∈ L, Nr l.a) (hq : Nr q.a) (hq0 : q.a.x = 0) :
    Calls Try.prog 42 #[.agg #[.int .i64 Wd, .slice u n c], ldV q.n q.t q.a] w fun e w' => (∃ x, e = .returned (ldV q.n q.t { q.a with x := x }) ∧ Psh (rcs L) q.a.w q.a.h q.a.y x) ∧ Below w.heap.size w w' := by
  have HU := hide (fun W (hW : Below w.heap.size w W) => hu.bel hW)
  have HL := hide hl
  have HS := hide hs
  have HIX : Hid (∀ x, x ∈ rights (rcs L) → ∀ W, Below w.heap.size w W → Calls Try.prog 57 #[.slice u n c, .func (.func 58) #[ldV q.n q.t { q.a with x := x }] #[]] W fun e w' => (∃ r : Int, e = .returned (.int .i64 r) ∧ InWay { q.a with x := x } L r) ∧ Below W.heap.size W w') := hide (fun x hx W hW =>
    ixP_any u b po n c L { q with a := { q.a with x := x } } W hl (by omega) (hu.bel hW) (fun l h => (hs l h).sm) (by have := rights_le hs x hx; have := hq.sm; unfold Sm at this ⊢; simp only; omega))
  have HP0 : Hid (Pu w (((w.alloc (.cells [Value.int .i64 Wd, .slice u n c].toArray 47)).alloc (.cells (ldC q).toArray 78)).alloc (.cells [Value.int .i64 0, .int .i64 0, .int .i64 0, .bool false, .int .i64 0, .int .i64 0].toArray 78)) Wd u n c L q 0) := hide
    ⟨ba (ba (ba (Below.refl _ _) _) _) _, by simp, (vb_new w 47 _ _ rfl).bel (ba (ba (Below.refl _ _) _) _), by
      have e : ({ q with a := { q.a with x := 0 } } : Ld) = q := by rw [← hq0]
      rw [e]
      exact (vb_new _ 78 (ldC q) _ (by simp)).bel (ba (Below.refl _ _) _), vb_new _ 78 _ _ (by simp), by simp [rights], blk_zero _ _ _ _⟩
  unfold ldV at HIX ⊢
  unfold ldC at HP0
  clear hu hl hs hq hq0
  simp only at HIX
  go_enter Try.func42, Try.ntmps42
  go_wp2_with fail
  go_loopg [5] 2000000 (fun gg _ W => ∃ x : Int, (2000000 - x).toNat ≤ gg ∧ Pu w W Wd u n c L q x)
  case atStart => exact ⟨0, by omega, unhide HP0⟩
  case round =>
    obtain ⟨x, hg, hp⟩ := hrel
    have HP := hide hp
    have a0 := hp.ne.cell (m := 0) rfl
    have a1 := hp.ne.cell (m := 1) rfl
    have c0 := hp.pl.cell (m := 0) rfl
    have c1 := hp.pl.cell (m := 1) rfl
    have c2 := hp.pl.cell (m := 2) rfl
    have c3 := hp.pl.cell (m := 3) rfl
    have c4 := hp.pl.cell (m := 4) rfl
    have c5 := hp.pl.cell (m := 5) rfl
    simp only at c0 c1 c2 c3 c4 c5
    have HC := hide (unhide HIX x hp.rt _ hp.bel)
    clear hp
    go_wp2_with fail
    refine (unhide HC).mono ?_
    rintro e W2 ⟨⟨r, rfl, hr⟩, hb2⟩
    have hp := (unhide HP).on hb2
    have HP := hide hp
    clear hb2 a0 a1 c0 c1 c2 c3 c4 c5 HC
    have c0 := hp.pl.cell (m := 0) rfl
    have c1 := hp.pl.cell (m := 1) rfl
    have c2 := hp.pl.cell (m := 2) rfl
    have c3 := hp.pl.cell (m := 3) rfl
    have c4 := hp.pl.cell (m := 4) rfl
    have c5 := hp.pl.cell (m := 5) rfl
    simp only at c0 c1 c2 c3 c4 c5
    rcases hr with ⟨rfl, hf⟩ | ⟨j, l, rfl, hj, ho⟩
    · have HF : Hid (Psh (rcs L) q.a.w q.a.h q.a.y x) := hide ⟨hp.bl, hp.rt, free_of hf⟩
      have d0 := hp.re.cell (m := 0) rfl
      have d1 := hp.re.cell (m := 1) rfl
      have d2 := hp.re.cell (m := 2) rfl
      have d3 := hp.re.cell (m := 3) rfl
      have d4 := hp.re.cell (m := 4) rfl
      have d5 := hp.re.cell (m := 5) rfl
      have df := hp.re.frozen
      clear hp hf
      go_wp2_with fail
      exact bodyPost_ret (v := .agg #[.int .i64 q.n, .int .i64 x, .int .i64 q.a.y, .bool q.t, .int .i64 q.a.w, .int .i64 q.a.h]) (by simp [results, Try.results42, go_sem, *]) rfl ⟨⟨x, rfl, unhide HF⟩, ((((((unhide HP).bel.setCell (by simp; omega) _).setCell (by simp; omega) _).setCell (by simp; omega) _).setCell (by simp; omega) _).setCell (by simp; omega) _).setCell (by simp; omega) _⟩
    · have HO := hide ho
      have HJ := hide hj
      obtain ⟨rfl, pw, k9⟩ := (unhide HU _ hp.bel).at hj
      have k0 := k9 0 _ rfl
      have k1 := k9 1 _ rfl
      have k2 := k9 2 _ rfl
      have k3 := k9 3 _ rfl
      have k4 := k9 4 _ rfl
      have k5 := k9 5 _ rfl
      rw [Nat.add_zero] at k0
      have hjn : j < n := by rw [← unhide HL]; exact (List.getElem?_eq_some_iff.1 hj).1
      have j0 : (0 : Int) ≤ (j : Int) := Int.natCast_nonneg _
      have j1 : (j : Int) < (n : Int) := by omega
      have jz : decide ((j : Int) < 0) = false := decide_eq_false (by omega)
      have a1 := hp.ne.cell (m := 1) rfl
      have pf := hp.pl.frozen
      have HR := hide (fun W => right_any l.n l.t l.a W (unhide HS l (List.mem_of_getElem? hj)).sm)
      have HK : Hid (Blk (rcs L) q.a.w q.a.h q.a.y (l.a.x + l.a.w) ∧ x < l.a.x + l.a.w ∧ l.a.x + l.a.w ∈ rights (rcs L)) := hide (blk_push (b := l.a) (List.mem_map.2 ⟨l, List.mem_of_getElem? hj, rfl⟩) ho hp.bl)
      have hx1 := rights_le (unhide HS) x hp.rt
      have hx2 := rights_le (unhide HS) _ (unhide HK).2.2
      have hx3 := (unhide HK).2.1
      unfold ldV at HR
      generalize hrr : l.a.x + l.a.w = rr at HR HK hx2 hx3
      clear hrr hp hj ho k9 pw
      go_wp2_with fail
      refine (unhide HR _).mono ?_
      rintro e W3 ⟨rfl, hb3⟩
      have hp := (unhide HP).on hb3
      have HP := hide hp
      clear hb3 a1 c0 c1 c2 c3 c4 c5 k0 k1 k2 k3 k4 k5 pf HR
      have c1 := hp.pl.cell (m := 1) rfl
      have pf := hp.pl.frozen
      simp only at c1
      clear hp
      have HN : Hid (Pu w (W3.setCell ⟨w.heap.size + 1, 1, none⟩ (.int .i64 rr)) Wd (some ⟨b, po, none⟩) n c L q rr) := hide (by
        have hp := unhide HP
        exact ⟨hp.bel.setCell (by simp) _, by simpa using hp.sz, hp.ne.ne (by omega), hp.pl.set 1 _, hp.re.ne (by omega), (unhide HK).2.2, (unhide HK).1⟩)
      go_wp2_with fail
      go_roundg (2000000 - rr).toNat
      case measure => omega
      case rel => first | exact ⟨rr, Nat.le_refl _, unhide HN⟩ | ((repeat apply Exists.intro); refine ⟨?_, rfl⟩; exact ⟨rr, Nat.le_refl _, unhide HN⟩)
end Go.Proofs.Ytoidhlackoigkaa
