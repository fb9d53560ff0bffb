/-
  Drawn moves over a field, whatever the code.
-/
import Derived.Test.YtbjljofgpbecbaaFld
import Derived.Test.YtbjljofgpbecbaaMvBase
import Derived.Test.YtbjljofgpbecbaaAppNew
import Derived.Deep.CutBlock
namespace Go.Proofs.Ytbjljofgpbecbaa
open Go.ChangeShapes Go.WideShapes Go.ChangeAt Go.RowKit
set_option linter.unusedVariables false
set_option linter.unusedSimpArgs false

/-- on the way to moves -/
structure Mz (w : World) (B g : Nat) (k : Int) (W H : Int) (u : Option Addr) (n c b8 : Nat) (v : Value) (i : Nat) (ms : List Mve) (a : Mve) (X : World) : Prop where
  so : So B g k X
  mv : Mv g w X
  hg : g < w.heap.size
  v4 : vb X w.heap.size 25 [.int .i64 W, .int .i64 H, .slice u n c]
  v8 : vb X b8 36 [.bool a.f, .int .i64 a.x, .int .i64 a.y, .int .i64 a.z]
  row : X.ownsRow (w.heap.size + 1) 36 4 v i (flat4 ms)
  nb : ∀ y, v.ownBlock = some y → y ≠ b8
  h8 : w.heap.size + 1 < b8
theorem own_mv {w w' : World} {B t k n g : Nat} {v : Value} {L : List Value} (h : w.ownsRow B t k v n L) (hb : Mv g w w') (hg : g < B) : w'.ownsRow B t k v n L := by
  refine ⟨h.1, ?_⟩
  rcases h.2 with h1 | ⟨q, cap, cur, hv, hB, hh, r⟩
  · exact .inl h1
  · exact .inr ⟨q, cap, cur, hv, hB, (hb.block q (Array.getElem?_eq_some_iff.1 hh).1 (by omega)).trans hh, r⟩
theorem own_ne {w : World} {B t k n b o : Nat} {v x : Value} {L : List Value} (h : w.ownsRow B t k v n L) (hb : ∀ y, v.ownBlock = some y → y ≠ b) : (w.setCell ⟨b, o, none⟩ x).ownsRow B t k v n L := by
  refine ⟨h.1, ?_⟩
  rcases h.2 with h1 | ⟨q, cap, cur, hv, hB, hh, r⟩
  · exact .inl h1
  · exact .inr ⟨q, cap, cur, hv, hB, (Below.heap_setCell _ _ _ _ (hb q (by rw [hv]; rfl))).trans hh, r⟩
theorem Mz.step {w : World} {B g n c i b8 : Nat} {k : Int} {W H : Int} {u : Option Addr} {v : Value} {ms : List Mve} {a : Mve} {X : World} {k' : Int} {X' : World} (h : Mz w B g k W H u n c b8 v i ms a X) (hs : So B g k' X') (mv : Mv g X X') : Mz w B g k' W H u n c b8 v i ms a X' := by
  have hg := h.hg; have h8 := h.h8
  exact ⟨hs, h.mv.trans mv, hg, h.v4.mv mv (by omega), h.v8.mv mv (by omega), own_mv h.row mv (by omega), h.nb, h8⟩
theorem Mz.up {w : World} {B g n c i b8 : Nat} {k : Int} {W H : Int} {u : Option Addr} {v : Value} {ms : List Mve} {a : Mve} {X : World} {k' : Int} (h : Mz w B g k W H u n c b8 v i ms a X) (hk : k ≤ k') : Mz w B g k' W H u n c b8 v i ms a X := ⟨h.so.up hk, h.mv, h.hg, h.v4, h.v8, h.row, h.nb, h.h8⟩
theorem Mz.bel {w : World} {B g n c i b8 : Nat} {k : Int} {W H : Int} {u : Option Addr} {v : Value} {ms : List Mve} {a : Mve} {X : World} {X' : World} (h : Mz w B g k W H u n c b8 v i ms a X) (hb : Below X.heap.size X X') : Mz w B g k W H u n c b8 v i ms a X' := h.step (h.so.bel hb) (Mv.of_bel hb)
/-- a cell of a block behind all others is written -/
theorem Mz.put {w : World} {B g n c i b8 : Nat} {k : Int} {W H : Int} {u : Option Addr} {v : Value} {ms : List Mve} {a : Mve} {X : World} {D o : Nat} {x : Value} (h : Mz w B g k W H u n c b8 v i ms a X) (hD : b8 < D) (hr : ∀ y, v.ownBlock = some y → y < D) : Mz w B g k W H u n c b8 v i ms a (X.setCell ⟨D, o, none⟩ x) := by
  have hg := h.hg; have h8 := h.h8; have hB := h.so.above
  exact ⟨h.so.set (by omega) (by omega) _ _, h.mv.new (by omega) _ _, hg, h.v4.ne (by omega), h.v8.ne (by omega), own_ne h.row (fun y hy => by have := hr y hy; omega), h.nb, h8⟩
theorem flat4_one (ms : List Mve) : ∀ u ∈ flat4 ms, u.oneCell' = true := by
  induction ms with
  | nil => intro u hu; cases hu
  | cons m ms ih =>
    intro u hu
    simp only [flat4, List.mem_cons] at hu
    rcases hu with rfl | rfl | rfl | rfl | hu
    · rfl
    · rfl
    · rfl
    · rfl
    · exact ih u hu
theorem Mz.app {w : World} {B g n c i b8 : Nat} {k : Int} {W H : Int} {u : Option Addr} {v : Value} {ms : List Mve} {a : Mve} {X : World} {a' : Mve} {v1 : Value} {w1 : World} {o : Obj} (h : Mz w B g k W H u n c b8 v i ms a X) (hown : w1.ownsRow (w.heap.size + 1) 36 4 v1 (i + 1) (flat4 ms ++ flat4 [a'])) (hgrow : (X.alloc o).grownBy w1 v.ownBlock) (hnew : NewBlk (X.alloc o) v v1) (hm : 0 ≤ (0 : Int)) : Mz w B g k W H u n c b8 v1 (i + 1) (ms ++ [a']) a w1 := by
  have hg := h.hg; have h8 := h.h8
  have hl8 := h.v8.lt
  have hge : ∀ y, v.ownBlock = some y → w.heap.size + 1 ≤ y := fun y hy => (World.ownsRow.lt h.row y hy).1
  have ha : Below X.heap.size X (X.alloc o) := ba (Below.refl _ _) _
  have hblk : ∀ b, b < X.heap.size → (∀ y, v.ownBlock = some y → y ≠ b) → w1.heap[b]? = X.heap[b]? := fun b hb hn => (hgrow.block b (by simp; omega) (fun e => hn b e.symm rfl)).trans (ha.block b hb)
  have hsz : X.heap.size ≤ w1.heap.size := Nat.le_trans (by simp) hgrow.size
  refine ⟨h.so.kept (fun b h1 h2 => hblk b h1 (fun y hy => by have := hge y hy; have := h.so.above; omega)) hsz, ?_, hg, (hblk _ h.v4.lt (fun y hy => by have := hge y hy; omega)).trans h.v4, (hblk _ hl8 h.nb).trans h.v8, by rw [flat4_append]; exact hown, fun y hy => ?_, h8⟩
  · have hs0 := h.mv.size
    exact ⟨hgrow.os.trans h.mv.os, hgrow.tape.trans h.mv.tape, hgrow.output.trans h.mv.output, Nat.le_trans hs0 hsz, fun b hb hbg => (hblk b (by omega) (fun y hy => by have := hge y hy; omega)).trans (h.mv.block b hb hbg)⟩
  · rcases hnew y hy with h1 | h1
    · exact h.nb y h1
    · simp at h1; omega
theorem Mz.setAt {w : World} {B g n c i b8 : Nat} {k : Int} {W H : Int} {u : Option Addr} {v : Value} {ms : List Mve} {a : Mve} {X : World} (h : Mz w B g k W H u n c b8 v i ms a X) (a' : Mve) : Mz w B g k W H u n c b8 v i ms a' ((((X.setCell ⟨b8, 0, none⟩ (.bool a'.f)).setCell ⟨b8, 1, none⟩ (.int .i64 a'.x)).setCell ⟨b8, 2, none⟩ (.int .i64 a'.y)).setCell ⟨b8, 3, none⟩ (.int .i64 a'.z)) := by
  have hg := h.hg; have h8 := h.h8; have hB := h.so.above
  have l1 : B ≤ b8 := by omega
  have l2 : b8 ≠ g := by omega
  have l3 : w.heap.size ≤ b8 := by omega
  have l4 : w.heap.size ≠ b8 := by omega
  exact ⟨(((h.so.set l1 l2 _ _).set l1 l2 _ _).set l1 l2 _ _).set l1 l2 _ _, (((h.mv.new l3 _ _).new l3 _ _).new l3 _ _).new l3 _ _, hg, (((h.v4.ne l4).ne l4).ne l4).ne l4, (((h.v8.set 0 _).set 1 _).set 2 _).set 3 _, own_ne (own_ne (own_ne (own_ne h.row h.nb) h.nb) h.nb) h.nb, h.nb, h8⟩
theorem World.ownsRow.mono_ {w : World} {B t k n : Nat} {v : Value} {L : List Value} (h : w.ownsRow (B + 1) t k v n L) : w.ownsRow B t k v n L := by
  refine ⟨h.1, ?_⟩
  rcases h.2 with h1 | ⟨q, cap, cur, hv, hB, hh, r⟩
  · exact .inl h1
  · exact .inr ⟨q, cap, cur, hv, by omega, hh, r⟩
theorem row_lt {X : World} {B t k n : Nat} {v : Value} {L : List Value} (h : X.ownsRow B t k v n L) : ∀ y, v.ownBlock = some y → y < X.heap.size := fun y hy => (World.ownsRow.lt h y hy).2
theorem mv_info' : (Try.prog.info? 36).map (fun i => (i.zero, i.size, i.bytes)) = some (some (mvv mv0), 4, 32) := by kernel_rfl

set_option maxHeartbeats 4000000 in
set_option maxRecDepth 100000 in
theorem moves_any {B g : Nat} {k : Int} {w : World} (W H n c : Nat) (u : Option Addr) (m : Nat) (hm : m ≤ 100) (hW1 : 1 ≤ W) (hW : W ≤ 24) (hH1 : 1 ≤ H) (hH : H ≤ 24) (h : So B g k w) (hk : k ≤ 900000000) :
    Calls Try.prog 36 #[.pointer (some ⟨g, 0, none⟩), .agg #[.int .i64 (W : Int), .int .i64 (H : Int), .slice u n c], .int .i64 (m : Int)] w fun e w' => ∃ v ms, e = .returned v ∧ w'.ownsRow w.heap.size 36 4 v m (flat4 ms) ∧ ms.length = m ∧ v ≠ .slice none 0 0 ∧ So B g (k + 30 * (m : Int)) w' ∧ Mv g w w' := by
  have hg := h.lt
  have hB := h.above
  have mx1 : max (W : Int) 1 = (W : Int) := by omega
  have mx2 : max (H : Int) 1 = (H : Int) := by omega
  have mn1 : min (W : Int) 24 = (W : Int) := by omega
  have mn2 : min (H : Int) 24 = (H : Int) := by omega
  have ww2 : IntKind.i64.wrap ((W : Int) + 2) = (W : Int) + 2 := wrap_i (by omega) (by omega)
  have hb0 : Below w.heap.size w (((w.alloc (.cells #[.int .i64 (W : Int), .int .i64 (H : Int), .slice u n c] 25)).alloc (.cells #[] 36)).alloc (.cells #[.bool false, .int .i64 0, .int .i64 0, .int .i64 24] 36)) := ba (ba (ba (Below.refl _ _) _) _) _
  have HZ : Hid (Mz w B g k W H u n c (w.heap.size + 2) (.slice (some ⟨w.heap.size + 1, 0, none⟩) 0 0) 0 [] ⟨false, 0, 0, 24⟩ (((w.alloc (.cells #[.int .i64 (W : Int), .int .i64 (H : Int), .slice u n c] 25)).alloc (.cells #[] 36)).alloc (.cells #[.bool false, .int .i64 0, .int .i64 0, .int .i64 24] 36))) := hide
    ⟨h.bel hb0, Mv.of_bel hb0, hg, ((vb_new w 25 [.int .i64 (W : Int), .int .i64 (H : Int), .slice u n c] _ rfl).bel (ba (Below.refl _ _) _)).bel (ba (Below.refl _ _) _), vb_new _ 36 [.bool false, .int .i64 0, .int .i64 0, .int .i64 24] _ (by simp), by
      have h1 : ((w.alloc (.cells #[.int .i64 (W : Int), .int .i64 (H : Int), .slice u n c] 25)).alloc (.cells #[] 36)).ownsRow (w.heap.size + 1) 36 4 (.slice (some ⟨(w.alloc (.cells #[.int .i64 (W : Int), .int .i64 (H : Int), .slice u n c] 25)).heap.size, 0, none⟩) 0 0) 0 [] := World.ownsRow_made _ #[] 0 (by simp) (by decide) (by simp)
      have h2 := h1.alloc (.cells #[.bool false, .int .i64 0, .int .i64 0, .int .i64 24] 36)
      rw [show (w.alloc (.cells #[.int .i64 (W : Int), .int .i64 (H : Int), .slice u n c] 25)).heap.size = w.heap.size + 1 by simp] at h2
      exact h2, fun y hy => by simp only [Value.ownBlock, Option.some.injEq] at hy; omega, by omega⟩
  obtain ⟨iP, hi1, hy0, hy1, hy2⟩ := info_parts mv_info'
  clear h hb0
  go_enter Try.func36, Try.ntmps36
  go_wp2_with fail
  generalize ((w.alloc (.cells #[.int .i64 (W : Int), .int .i64 (H : Int), .slice u n c] 25)).alloc (.cells #[] 36)).alloc (.cells #[.bool false, .int .i64 0, .int .i64 0, .int .i64 24] 36) = Wa at *
  generalize hv0 : Value.slice (some ⟨w.heap.size + 1, 0, none⟩) 0 0 = v0 at *
  generalize hb8 : w.heap.size + 2 = b8 at *
  have hne0 : v0 ≠ .slice none 0 0 := by rw [← hv0]; simp
  clear hv0
  have HB8 := hide hb8
  clear hb8
  go_loopw [7, 11] (fun z7 zz X => ∃ (i : Nat) (ms : List Mve) (a : Mve), zz = .int .i64 (i : Int) ∧ i ≤ m ∧ ms.length = i ∧ z7 ≠ .slice none 0 0 ∧ Mz w B g (k + 30 * (i : Int)) W H u n c b8 z7 i ms a X) (fun _ zz _ => m - (intOf zz).toNat)
  case atStart => exact ⟨0, [], _, rfl, Nat.zero_le _, rfl, hne0, by simpa using unhide HZ⟩
  case round =>
    rename_i z7 z11
    obtain ⟨i, ms, a, rfl, hii, hml, hn7, hz⟩ := hrel
    have HM := hide hz
    have HML := hide hml
    have HN7 := hide hn7
    clear hz HZ hml hn7
    by_cases hc : i < m
    · have lz := decide_eq_true (show (i : Int) < (m : Int) by omega)
      have r0 := (unhide HM).v8.cell (m := 0) rfl
      have r1 := (unhide HM).v8.cell (m := 1) rfl
      have r2 := (unhide HM).v8.cell (m := 2) rfl
      have r3 := (unhide HM).v8.cell (m := 3) rfl
      have hA : Below wr.heap.size wr (wr.alloc (.cells #[.bool a.f, .int .i64 a.x, .int .i64 a.y, .int .i64 a.z] 36)) := ba (Below.refl _ _) _
      have HA := hide ((unhide HM).bel hA)
      have HD := hide (vb_new wr 36 [.bool a.f, .int .i64 a.x, .int .i64 a.y, .int .i64 a.z] wr.heap.size rfl)
      have hbD : b8 < wr.heap.size := (unhide HM).v8.lt
      have h8g : g < b8 := by have h1 := (unhide HM).h8; have h2 := (unhide HM).hg; omega
      have HRL := hide (row_lt (unhide HM).row)
      clear hA HM
      go_upto_region 9 with fail
      generalize wr.alloc (.cells #[.bool a.f, .int .i64 a.x, .int .i64 a.y, .int .i64 a.z] 36) = Wb at *
      generalize wr.heap.size = D at *
      clear r0 r1 r2 r3
      obtain ⟨af, ax, ay, az⟩ := a
      simp only at HD
      go_wp2_with fail
      refine (next_any (k := k + 30 * (i : Int)) 4 (unhide HA).so (by omega) (by omega) (by omega)).mono ?_
      rintro e Wc ⟨r4, rfl, r40, r41, hs, mv⟩
      have HA1 := hide ((unhide HA).step hs mv)
      have HD1 := hide ((unhide HD).mv mv (by omega))
      clear hs mv
      clear HA HD
      go_upto_block 2 with fail
      go_cut [] from 23 to 86 (fun wx => ∃ x y z : Int, Mz w B g (k + 30 * (i : Int) + 6) W H u n c b8 u7 i ms ⟨af, ax, ay, az⟩ wx ∧ vb wx D 36 [.bool af, .int .i64 x, .int .i64 y, .int .i64 z])
      case first =>
        have hr4 : r4 = 0 ∨ r4 = 1 ∨ r4 = 2 ∨ r4 = 3 := by omega
        rcases hr4 with rfl | rfl | rfl | rfl
        · go_wp2_with fail
          refine (next_any (k := k + 30 * (i : Int) + 3) (W : Int) (unhide HA1).so (by omega) (by omega) (by omega)).mono ?_
          rintro e Wd ⟨rx, rfl, rx0, rx1, hs, mv⟩
          have HA2 := hide ((unhide HA1).step hs mv)
          have HD2 := hide ((unhide HD1).mv mv (by omega))
          clear hs mv
          have q1 := (unhide HD2).cell (m := 1) rfl
          have qf := (unhide HD2).frozen
          go_wp2_with fail
          go_meet
          exact ⟨rx, ay, az, ((unhide HA2).up (by omega)).put hbD (unhide HRL), (unhide HD2).set 1 _⟩
        · go_wp2_with fail
          refine (next_any (k := k + 30 * (i : Int) + 3) (H : Int) (unhide HA1).so (by omega) (by omega) (by omega)).mono ?_
          rintro e Wd ⟨rx, rfl, rx0, rx1, hs, mv⟩
          have HA2 := hide ((unhide HA1).step hs mv)
          have HD2 := hide ((unhide HD1).mv mv (by omega))
          clear hs mv
          have q2 := (unhide HD2).cell (m := 2) rfl
          have qf := (unhide HD2).frozen
          go_wp2_with fail
          go_meet
          exact ⟨ax, rx, az, ((unhide HA2).up (by omega)).put hbD (unhide HRL), (unhide HD2).set 2 _⟩
        · go_wp2_with fail
          refine (next_any (k := k + 30 * (i : Int) + 3) 10 (unhide HA1).so (by omega) (by omega) (by omega)).mono ?_
          rintro e Wd ⟨rx, rfl, rx0, rx1, hs, mv⟩
          have HA2 := hide ((unhide HA1).step hs mv)
          have HD2 := hide ((unhide HD1).mv mv (by omega))
          clear hs mv
          have w4 : IntKind.i64.wrap (4 + rx) = 4 + rx := wrap_i (by omega) (by omega)
          have q3 := (unhide HD2).cell (m := 3) rfl
          have qf := (unhide HD2).frozen
          go_wp2_with fail
          go_meet
          exact ⟨ax, ay, 4 + rx, ((unhide HA2).up (by omega)).put hbD (unhide HRL), (unhide HD2).set 3 _⟩
        · have q3 := (unhide HD1).cell (m := 3) rfl
          have qf := (unhide HD1).frozen
          go_wp2_with fail
          go_meet
          exact ⟨ax, ay, 24, ((unhide HA1).up (by omega)).put hbD (unhide HRL), (unhide HD1).set 3 _⟩
      case rest =>
      obtain ⟨x, y, z, hz, hd⟩ := hcut
      have HA2 := hide hz
      have HD2 := hide hd
      clear hz hd HA1 HD1
      go_upto_region 17 with fail
      go_cut [] from 23 to 86 (fun wx => ∃ f : Bool, Mz w B g (k + 30 * (i : Int) + 9) W H u n c b8 u7 i ms ⟨af, ax, ay, az⟩ wx ∧ vb wx D 36 [.bool f, .int .i64 x, .int .i64 y, .int .i64 z])
      case first =>
        have q3 := (unhide HD2).cell (m := 3) rfl
        by_cases hz : z = 24
        · subst hz
          go_wp2_with fail
          refine (chance_any (k := k + 30 * (i : Int) + 6) 2 (unhide HA2).so (by omega) (by omega) (by omega)).mono ?_
          rintro e Wd ⟨bb, rfl, hs, mv⟩
          have HA3 := hide ((unhide HA2).step hs mv)
          have HD3 := hide ((unhide HD2).mv mv (by omega))
          clear hs mv q3
          have q0 := (unhide HD3).cell (m := 0) rfl
          have qf := (unhide HD3).frozen
          go_wp2_with fail
          go_meet
          exact ⟨bb, ((unhide HA3).up (by omega)).put hbD (unhide HRL), (unhide HD3).set 0 _⟩
        · have hzb : (z == 24) = false := by simpa using hz
          have hzd : decide (z = 24) = false := decide_eq_false hz
          have q0 := (unhide HD2).cell (m := 0) rfl
          have qf := (unhide HD2).frozen
          go_wp2_with fail
          go_meet
          exact ⟨false, ((unhide HA2).up (by omega)).put hbD (unhide HRL), (unhide HD2).set 0 _⟩
      case rest =>
      obtain ⟨f, hz, hd⟩ := hcut
      have HA3 := hide hz
      have HD3 := hide hd
      clear hz hd HA2 HD2
      go_wp2_with fail
      refine (next_any (k := k + 30 * (i : Int) + 9) 30 (unhide HA3).so (by omega) (by omega) (by omega)).mono ?_
      rintro e We ⟨r30, rfl, r300, r301, hs, mv⟩
      have HA4 := hide ((unhide HA3).step hs mv)
      have HD4 := hide ((unhide HD3).mv mv (by omega))
      clear hs mv
      clear HA3 HD3
      go_upto_block 3 with fail
      go_cut [] from 23 to 86 (fun wx => ∃ (f : Bool) (x y z : Int), Mz w B g (k + 30 * (i : Int) + 15) W H u n c b8 u7 i ms ⟨af, ax, ay, az⟩ wx ∧ vb wx D 36 [.bool f, .int .i64 x, .int .i64 y, .int .i64 z])
      case first =>
        have hr : r30 = 0 ∨ r30 = 1 ∨ r30 = 2 ∨ r30 = 3 ∨ 4 ≤ r30 := by omega
        rcases hr with rfl | rfl | rfl | rfl | hr
        · go_wp2_with fail
          refine (next_any (k := k + 30 * (i : Int) + 9 + 3) ((W : Int) + 2) (unhide HA4).so (by omega) (by omega) (by omega)).mono ?_
          rintro e Wf ⟨rx, rfl, rx0, rx1, hs, mv⟩
          have HA5 := hide ((unhide HA4).step hs mv)
          have HD5 := hide ((unhide HD4).mv mv (by omega))
          clear hs mv
          have w1 : IntKind.i64.wrap (rx - 1) = rx - 1 := wrap_i (by omega) (by omega)
          have q1 := (unhide HD5).cell (m := 1) rfl
          have qf := (unhide HD5).frozen
          go_wp2_with fail
          go_meet
          exact ⟨f, rx - 1, y, z, ((unhide HA5).up (by omega)).put hbD (unhide HRL), (unhide HD5).set 1 _⟩
        · go_wp2_with fail
          refine (next_any (k := k + 30 * (i : Int) + 9 + 3) 26 (unhide HA4).so (by omega) (by omega) (by omega)).mono ?_
          rintro e Wf ⟨rx, rfl, rx0, rx1, hs, mv⟩
          have HA5 := hide ((unhide HA4).step hs mv)
          have HD5 := hide ((unhide HD4).mv mv (by omega))
          clear hs mv
          have w1 : IntKind.i64.wrap (rx - 1) = rx - 1 := wrap_i (by omega) (by omega)
          have q3 := (unhide HD5).cell (m := 3) rfl
          have qf := (unhide HD5).frozen
          go_wp2_with fail
          go_meet
          exact ⟨f, x, y, rx - 1, ((unhide HA5).up (by omega)).put hbD (unhide HRL), (unhide HD5).set 3 _⟩
        · have q0 := (unhide HD4).cell (m := 0) rfl
          have qf := (unhide HD4).frozen
          go_wp2_with fail
          go_meet
          exact ⟨true, x, y, z, ((unhide HA4).up (by omega)).put hbD (unhide HRL), (unhide HD4).set 0 _⟩
        · go_wp2_with fail
          refine (odd_any (k := k + 30 * (i : Int) + 9 + 3) (unhide HA4).so (by omega)).mono ?_
          rintro e Wf ⟨rx, rfl, rx0, rx1, hs, mv⟩
          have HA5 := hide ((unhide HA4).step hs mv)
          have HD5 := hide ((unhide HD4).mv mv (by omega))
          clear hs mv
          have q2 := (unhide HD5).cell (m := 2) rfl
          have qf := (unhide HD5).frozen
          go_wp2_with fail
          go_meet
          exact ⟨f, x, rx, z, ((unhide HA5).up (by omega)).put hbD (unhide HRL), (unhide HD5).set 2 _⟩
        · have d0 : (r30 == 0) = false := by rw [beq_eq_false_iff_ne]; omega
          have d1 : (r30 == 1) = false := by rw [beq_eq_false_iff_ne]; omega
          have d2 : (r30 == 2) = false := by rw [beq_eq_false_iff_ne]; omega
          have d3 : (r30 == 3) = false := by rw [beq_eq_false_iff_ne]; omega
          go_wp2_with fail
          go_meet
          exact ⟨f, x, y, z, (unhide HA4).up (by omega), unhide HD4⟩
      case rest =>
      obtain ⟨f, x, y, z, hz, hd⟩ := hcut
      have HA5 := hide hz
      have HD5 := hide hd
      clear hz hd HA4 HD4
      have c0 := (unhide HD5).cell (m := 0) rfl
      have c1 := (unhide HD5).cell (m := 1) rfl
      have c2 := (unhide HD5).cell (m := 2) rfl
      have c3 := (unhide HD5).cell (m := 3) rfl
      generalize hWq : wc = Wq at *
      clear hWq
      have hDq := (unhide HD5).lt
      have hsq : w.heap.size + 1 ≤ Wq.heap.size := by have := (unhide HA5).h8; omega
      go_wp2_with (at_builtin; refine unhide ?_)
      refine hide ?_
      refine wpList_append_new _ rfl _ _ 28 rfl (w.heap.size + 1) 36 iP _ 4 32 Try.underlying28 hi1 hy0 hy1 hy2 rfl (by decide) _ i (flat4 ms) rfl ((unhide HA5).row.alloc _) _ 1 1 (flat4 [⟨f, x, y, z⟩]) rfl rfl (by first | exact news_cells _ _ rfl | exact news_cells _ _ (by simp)) (flat4_one _) (by unfold maxLen; omega) (by omega) (by first | omega | (simp; omega)) ?_
      intro v1 w1 hown' hgrow hvn1 hnew
      have HAP := hide (Mz.app (o := .cells (flat4 [⟨f, x, y, z⟩]).toArray 36) (unhide HA5) hown' hgrow hnew (by omega))
      have HD6 : Hid (vb w1 D 36 [.bool f, .int .i64 x, .int .i64 y, .int .i64 z]) := hide ((hgrow.block D (by simp; omega) (fun e => by have := (unhide HRL) D e.symm; omega)).trans ((unhide HD5).bel (ba (Below.refl _ _) _)))
      have HN1 : Hid (v1 ≠ .slice none 0 0) := hide (fun e => by have := (hvn1.1 e).2; omega)
      clear hown' hgrow hvn1 hnew c0 c1 c2 c3
      have c0 := (unhide HD6).cell (m := 0) rfl
      have c1 := (unhide HD6).cell (m := 1) rfl
      have c2 := (unhide HD6).cell (m := 2) rfl
      have c3 := (unhide HD6).cell (m := 3) rfl
      have e0 := (unhide HAP).v8.cell (m := 0) rfl
      have e1 := (unhide HAP).v8.cell (m := 1) rfl
      have e2 := (unhide HAP).v8.cell (m := 2) rfl
      have e3 := (unhide HAP).v8.cell (m := 3) rfl
      have ef := (unhide HAP).v8.frozen
      go_wp2_with fail
      go_roundw
      case rel => exact ⟨i + 1, ms ++ [⟨f, x, y, z⟩], ⟨f, x, y, z⟩, by simp, hc, by simp [unhide HML], unhide HN1, ((unhide HAP).setAt _).up (by omega)⟩
      case measure => simp only [intOf]; omega
    · have lz : decide ((i : Int) < (m : Int)) = false := decide_eq_false (by omega)
      obtain rfl : i = m := by omega
      go_wp2_with fail
      go_ret
      exact ⟨_, ms, rfl, World.ownsRow.mono_ (unhide HM).row, unhide HML, unhide HN7, (unhide HM).so, (unhide HM).mv⟩
end Go.Proofs.Ytbjljofgpbecbaa
