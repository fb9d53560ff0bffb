/-
  A drawn field, whatever the code.
-/
import Derived.Test.YtjhldjojkaphkaaOwnY
import Derived.Test.YtjhldjojkaphkaaVb
import Derived.Test.YtjhldjojkaphkaaRowX
import Derived.Test.YtjhldjojkaphkaaByt
import Derived.Lib.MinMax
namespace Go.Proofs.Ytjhldjojkaphkaa
open Go.ChangeShapes Go.WideShapes Go.ChangeAt Go.RowKit
set_option linter.unusedVariables false
set_option linter.unusedSimpArgs false

theorem vb.mv {w w' : World} {g g' t : Nat} {vs : List Value} (h : vb w g t vs) (hb : Mv g' w w') (hg : g ≠ g') : vb w' g t vs := (hb.block g h.lt hg).trans h

set_option maxHeartbeats 1000000 in
theorem odd_any {B g : Nat} {k : Int} {w : World} (h : So B g k w) (n1 : k ≤ 1000000000) :
    Calls Try.prog 67 #[.pointer (some ⟨g, 0, none⟩)] w fun e w' => ∃ r : Int, e = .returned (.int .i64 r) ∧ -9223372036854775808 ≤ r ∧ r ≤ 9223372036854775807 ∧ So B g (k + 3) w' ∧ Mv g w w' := by
  have HB := hide (next_any 12 (h.alloc (.cells #[.int .i64 0, .int .i64 (-1), .int .i64 1, .int .i64 2, .int .i64 63, .int .i64 64, .int .i64 65, .int .i64 4096, .int .i64 4097, .int .i64 9223372036854775807, .int .i64 (-9223372036854775808), .int .i64 30] 3)) n1 (by omega) (by omega))
  have hg := h.lt
  clear h
  go_enter Try.func67, Try.ntmps67
  go_wp2_with fail
  refine (unhide HB).mono ?_
  rintro e w1 ⟨r, rfl, r0, r1, hs, hb⟩
  have HS := hide hs
  have HW := hide hb
  have hc : ∀ i, i < 12 → ∃ x : Int, -9223372036854775808 ≤ x ∧ x ≤ 9223372036854775807 ∧ w1.cell? ⟨w.heap.size, i, none⟩ = some (.int .i64 x) := by
    intro i hi
    have : ∃ x : Int, -9223372036854775808 ≤ x ∧ x ≤ 9223372036854775807 ∧ (w.alloc (.cells #[.int .i64 0, .int .i64 (-1), .int .i64 1, .int .i64 2, .int .i64 63, .int .i64 64, .int .i64 65, .int .i64 4096, .int .i64 4097, .int .i64 9223372036854775807, .int .i64 (-9223372036854775808), .int .i64 30] 3)).cell? ⟨w.heap.size, i, none⟩ = some (.int .i64 x) := by
      have hi' : i = 0 ∨ i = 1 ∨ i = 2 ∨ i = 3 ∨ i = 4 ∨ i = 5 ∨ i = 6 ∨ i = 7 ∨ i = 8 ∨ i = 9 ∨ i = 10 ∨ i = 11 := by omega
      rcases hi' with rfl | rfl | rfl | rfl | rfl | rfl | rfl | rfl | rfl | rfl | rfl | rfl
      · exact ⟨(0), by decide, by decide, by simp [go_sem]⟩
      · exact ⟨(-1), by decide, by decide, by simp [go_sem]⟩
      · exact ⟨(1), by decide, by decide, by simp [go_sem]⟩
      · exact ⟨(2), by decide, by decide, by simp [go_sem]⟩
      · exact ⟨(63), by decide, by decide, by simp [go_sem]⟩
      · exact ⟨(64), by decide, by decide, by simp [go_sem]⟩
      · exact ⟨(65), by decide, by decide, by simp [go_sem]⟩
      · exact ⟨(4096), by decide, by decide, by simp [go_sem]⟩
      · exact ⟨(4097), by decide, by decide, by simp [go_sem]⟩
      · exact ⟨(9223372036854775807), by decide, by decide, by simp [go_sem]⟩
      · exact ⟨(-9223372036854775808), by decide, by decide, by simp [go_sem]⟩
      · exact ⟨(30), by decide, by decide, by simp [go_sem]⟩
    obtain ⟨x, h1, h2, h3⟩ := this
    exact ⟨x, h1, h2, hb.cell (by omega) h3⟩
  clear hs hb
  obtain ⟨j, rfl⟩ := Int.eq_ofNat_of_zero_le r0
  obtain ⟨x, x0, x1, hx⟩ := hc j (by omega)
  clear hc
  go_wp2
  go_ret
  exact ⟨x, rfl, x0, x1, unhide HS, (Mv.of_bel (ba (Below.refl _ _) _)).trans (unhide HW)⟩


/-- on the way to a field -/
structure Fz (w : World) (B g : Nat) (k : Int) (W H : Int) (v : Value) (i : Nat) (L : List Int) (X : World) : Prop where
  so : So B g k X
  mv : Mv g w X
  hg : g < w.heap.size
  v6 : vb X w.heap.size 25 [.int .i64 0, .int .i64 0, .slice none 0 0]
  v7 : vb X (w.heap.size + 1) 25 [.int .i64 W, .int .i64 H, v]
  row : Row X (w.heap.size + 2) 3 1 v i L
theorem Fz.step {w : World} {B g : Nat} {k k' : Int} {W H : Int} {v : Value} {i : Nat} {L : List Int} {X X' : World} (h : Fz w B g k W H v i L X) (hs : So B g k' X') (mv : Mv g X X') : Fz w B g k' W H v i L X' :=
  ⟨hs, h.mv.trans mv, h.hg, h.v6.mv mv (by have := h.hg; omega), h.v7.mv mv (by have := h.hg; omega), h.row.mv mv (by have := h.hg; omega)⟩
theorem Fz.up {w : World} {B g : Nat} {k k' : Int} {W H : Int} {v : Value} {i : Nat} {L : List Int} {X : World} (h : Fz w B g k W H v i L X) (hk : k ≤ k') : Fz w B g k' W H v i L X := ⟨h.so.up hk, h.mv, h.hg, h.v6, h.v7, h.row⟩
theorem Fz.more {w : World} {B g : Nat} {k : Int} {W H : Int} {v v' : Value} {i j : Nat} {L L' : List Int} {X X' : World} (h : Fz w B g k W H v i L X) (hB : B ≤ g) (hb : Below (w.heap.size + 2) X X') (hr : Row X' (w.heap.size + 2) 3 1 v' j L') : Fz w B g k W H v' j L' (X'.setCell ⟨w.heap.size + 1, 2, none⟩ v') := by
  have hg := h.hg
  refine ⟨(h.so.belB hb (by omega)).set (by omega) (by omega) _ _, (h.mv.belB hb (by omega)).new (by omega) _ _, hg, (h.v6.below hb (by omega)).ne (by omega), (h.v7.below hb (by omega)).set 2 _, hr.kept' (fun y hy => ?_)⟩
  have := (World.ownsRow.lt hr y hy).1
  have hne : y ≠ w.heap.size + 1 := by omega
  exact Below.heap_setCell _ _ _ _ hne
theorem Fz.put {w : World} {B g q n cap : Nat} {k : Int} {W H : Int} {L : List Int} {X : World} (h : Fz w B g k W H (.slice (some ⟨q, 0, none⟩) n cap) n L X) (hB : B ≤ g) (hq : w.heap.size + 2 ≤ q) (j : Nat) (hj : j < n) (x : Int) : Fz w B g k W H (.slice (some ⟨q, 0, none⟩) n cap) n (L.set j x) (X.setCell ⟨q, j, none⟩ (.int .i64 x)) := by
  have hg := h.hg
  exact ⟨h.so.set (by omega) (by omega) _ _, h.mv.new (by omega) _ _, hg, h.v6.ne (by omega), h.v7.ne (by omega), h.row.set j (by omega) x⟩
theorem mulW {v W H : Nat} (hW : W ≤ 24) (hv : v < H) (hH : H ≤ 24) : v * W ≤ 576 := Nat.le_trans (Nat.mul_le_mul (Nat.le_of_lt hv) hW) (by omega)
theorem idx_lt {u v W H : Nat} (hu : u < W) (hv : v < H) : v * W + u < W * H := by
  have h1 : (v + 1) * W ≤ H * W := Nat.mul_le_mul_right W hv
  rw [Nat.add_mul, Nat.one_mul, Nat.mul_comm H W] at h1
  omega
set_option maxHeartbeats 4000000 in
set_option maxRecDepth 100000 in
theorem fld_any {B g : Nat} {k : Int} {w : World} (W H n : Nat) (hW1 : 1 ≤ W) (hW : W ≤ 24) (hH1 : 1 ≤ H) (hH : H ≤ 24) (hn : n = W * H) (h : So B g k w) (hk : k ≤ 900000000) :
    Calls Try.prog 66 #[.pointer (some ⟨g, 0, none⟩), .int .i64 (W : Int), .int .i64 (H : Int)] w fun e w' => ∃ q cap L, e = .returned (.agg #[.int .i64 (W : Int), .int .i64 (H : Int), .slice (some ⟨q, 0, none⟩) n cap]) ∧ Row w' w.heap.size 3 1 (.slice (some ⟨q, 0, none⟩) n cap) n L ∧ So B g (k + 1000) w' ∧ Mv g w w' := by
  have hg := h.lt
  have hB := h.above
  have hnb : n ≤ 576 := by rw [hn]; exact Nat.mul_le_mul hW hH
  have hn1 : 1 ≤ n := by rw [hn]; exact Nat.mul_pos hW1 hH1
  have wm : IntKind.i64.wrap ((W : Int) * (H : Int)) = (n : Int) := by
    rw [← Int.natCast_mul, ← hn]
    exact Go.IntWalk.i64_in _ ⟨by omega, by omega⟩
  have HIX := hide (fun (u v : Nat) (hu : u < W) (hv : v < H) => (show v * W + u < n by rw [hn]; exact idx_lt hu hv))
  have HMW := hide (fun (v : Nat) (hv : v < H) => mulW hW hv hH)
  have hb0 : Below w.heap.size w ((w.alloc (.cells #[.int .i64 0, .int .i64 0, .slice none 0 0] 25)).alloc (.cells #[.int .i64 (W : Int), .int .i64 (H : Int), .slice none 0 0] 25)) := ba (ba (Below.refl _ _) _) _
  have HZ : Hid (Fz w B g k W H (.slice none 0 0) 0 [] ((w.alloc (.cells #[.int .i64 0, .int .i64 0, .slice none 0 0] 25)).alloc (.cells #[.int .i64 (W : Int), .int .i64 (H : Int), .slice none 0 0] 25))) := hide
    ⟨h.bel hb0, Mv.of_bel hb0, hg, vb_new1 w 25 [.int .i64 0, .int .i64 0, .slice none 0 0] _, vb_new2 w 25 [.int .i64 (W : Int), .int .i64 (H : Int), .slice none 0 0] _, ⟨rfl, .inl ⟨rfl, rfl⟩⟩⟩
  obtain ⟨iP, hi1, hy0, hy1, hy2⟩ := info_parts int_info3
  clear h hb0 hn
  go_enter Try.func66, Try.ntmps66
  go_wp2_with fail
  generalize (w.alloc (.cells #[.int .i64 0, .int .i64 0, .slice none 0 0] 25)).alloc (.cells #[.int .i64 (W : Int), .int .i64 (H : Int), .slice none 0 0] 25) = Wa at *
  go_loopw [8] (fun zz X => ∃ (i : Nat) (u : Option Addr) (c : Nat), zz = .int .i64 (i : Int) ∧ i ≤ n ∧ Fz w B g k W H (.slice u i c) i (List.replicate i 0) X) (fun zz _ => n - (intOf zz).toNat)
  case atStart => exact ⟨0, _, _, rfl, Nat.zero_le _, unhide HZ⟩
  case round =>
    obtain ⟨i, u, cap, rfl, hii, hz⟩ := hrel
    have HF := hide hz
    clear hz HZ
    by_cases hc : i < n
    · have l1 : (i : Int) < (n : Int) := by omega
      have lz := decide_eq_true l1
      have c2 := (unhide HF).v7.cell (m := 2) rfl
      have f7 := (unhide HF).v7.frozen
      have HSZ : Hid (w.heap.size + 2 ≤ wr.heap.size) := hide (unhide HF).v7.lt
      go_wp2_with (at_builtin; refine unhide ?_)
      refine hide ?_
      refine wpList_append_own _ rfl _ _ 23 rfl (w.heap.size + 2) 3 iP _ 1 8 Try.underlying23 hi1 hy0 hy1 hy2 rfl (by decide) _ i ((List.replicate i (0 : Int)).map (Value.int .i64)) rfl ((unhide HF).row.alloc _) _ 1 1 ([(0 : Int)].map (Value.int .i64)) rfl rfl (by first | exact news_cells _ _ rfl | exact news_cells _ _ (by simp)) ints_one (by unfold maxLen; omega) (by omega) (by first | (have := unhide HSZ; omega) | (have := unhide HSZ; simp; omega)) ?_
      intro v1 w1 hown' hgrow hvn1
      have R1 := own_more (wr := wr) (news := [(0 : Int)]) (by repeat (first | exact Below.refl _ _ | refine Below.alloc ?_ (by first | exact unhide HSZ | (simp; exact unhide HSZ)) _ | refine Below.drew ?_)) (by first | exact Nat.le_trans (unhide HSZ) (by simp) | (have := unhide HSZ; simp; omega) | (have := unhide HSZ; omega)) (unhide HF).row hown' hgrow
      obtain ⟨u1, c1, rfl, _⟩ := R1.1.form
      have HF2 := hide ((unhide HF).more hB R1.2 R1.1)
      have v7b := (unhide HF).v7.below R1.2 (by omega)
      have c2b := v7b.cell (m := 2) rfl
      have f7b := v7b.frozen
      clear hown' hgrow hvn1 R1 v7b c2 f7
      go_wp2_with fail
      go_roundw
      case rel => exact ⟨i + 1, u1, c1, by simp, hc, by rw [List.replicate_succ']; exact unhide HF2⟩
      case measure => simp only [intOf]; omega
    · have lz : decide ((i : Int) < (n : Int)) = false := decide_eq_false (by omega)
      obtain rfl : i = n := by omega
      obtain ⟨q, cap', hv, hq, hq2, _, hcap, hcm⟩ := (unhide HF).row.full (by omega)
      cases hv
      clear hq2
      go_wp2_with fail
      refine (next_any (k := k) 3 (unhide HF).so (by omega) (by omega) (by omega)).mono ?_
      rintro e W1 ⟨r, rfl, r0, r1, hs, mv⟩
      have HF1 := hide ((unhide HF).step hs mv)
      clear hs mv HF
      obtain ⟨r, rfl⟩ := Int.eq_ofNat_of_zero_le r0
      have wr1 : IntKind.i64.wrap (1 + (r : Int)) = ((r + 1 : Nat) : Int) := (Go.IntWalk.i64_in _ ⟨by omega, by omega⟩).trans (by omega)
      generalize List.replicate i (0 : Int) = L0 at *
      go_wp2_with fail
      go_loopw [9] (fun zz X => ∃ (j : Nat) (L : List Int), zz = .int .i64 (j : Int) ∧ j ≤ 3 ∧ Fz w B g (k + 3 + 100 * (3 - (j : Int))) W H (.slice (some ⟨q, 0, none⟩) i cap) i L X) (fun zz _ => (intOf zz).toNat)
      case atStart => exact ⟨r + 1, L0, rfl, by omega, (unhide HF1).up (by omega)⟩
      case round =>
        obtain ⟨j, L, rfl, hj3, hz⟩ := hrel
        have HG := hide hz
        clear hz HF1
        by_cases hj : 0 < j
        · have lj : (0 : Int) < (j : Int) := by omega
          have ljz := decide_eq_true lj
          go_wp2_with fail
          refine (next_any (k := k + 3 + 100 * (3 - (j : Int))) (W : Int) (unhide HG).so (by omega) (by omega) (by omega)).mono ?_
          rintro e W2 ⟨x, rfl, x0, x1, hs, mv⟩
          have HG1 := hide ((unhide HG).step hs mv)
          clear hs mv HG
          obtain ⟨x, rfl⟩ := Int.eq_ofNat_of_zero_le x0
          go_wp2_with fail
          refine (next_any (k := k + 3 + 100 * (3 - (j : Int)) + 3) (H : Int) (unhide HG1).so (by omega) (by omega) (by omega)).mono ?_
          rintro e W3 ⟨y, rfl, y0, y1, hs, mv⟩
          have HG2 := hide ((unhide HG1).step hs mv)
          clear hs mv HG1
          obtain ⟨y, rfl⟩ := Int.eq_ofNat_of_zero_le y0
          go_wp2_with fail
          refine (next_any (k := k + 3 + 100 * (3 - (j : Int)) + 3 + 3) 9 (unhide HG2).so (by omega) (by omega) (by omega)).mono ?_
          rintro e W4 ⟨tp9, rfl, t0, t1, hs, mv⟩
          have HG3 := hide ((unhide HG2).step hs mv)
          clear hs mv HG2
          have wy1 : IntKind.i64.wrap ((y : Int) + 1) = (y : Int) + 1 := Go.IntWalk.i64_in _ ⟨by omega, by omega⟩
          have wx4 : IntKind.i64.wrap ((x : Int) + 4) = (x : Int) + 4 := Go.IntWalk.i64_in _ ⟨by omega, by omega⟩
          go_wp2_with fail
          go_loopw [13] (fun zz X => ∃ (v : Nat) (L : List Int), zz = .int .i64 (v : Int) ∧ y ≤ v ∧ v ≤ H ∧ Fz w B g (k + 3 + 100 * (3 - (j : Int)) + 9 + 3 * ((v : Int) - (y : Int))) W H (.slice (some ⟨q, 0, none⟩) i cap) i L X) (fun zz _ => H - (intOf zz).toNat)
          case atStart => exact ⟨y, L, rfl, Nat.le_refl _, by omega, (unhide HG3).up (by omega)⟩
          case round =>
            obtain ⟨v, L2, rfl, hv1, hv2, hz⟩ := hrel
            have HH := hide hz
            clear hz HG3
            go_wp2_with fail
            refine (next_any (k := k + 3 + 100 * (3 - (j : Int)) + 9 + 3 * ((v : Int) - (y : Int))) 4 (unhide HH).so (by omega) (by omega) (by omega)).mono ?_
            rintro e W5 ⟨f4, rfl, f0, f1, hs, mv⟩
            have HH1 := hide ((unhide HH).step hs mv)
            clear hs mv HH
            have wy2 : IntKind.i64.wrap ((y : Int) + 1 + f4) = (y : Int) + 1 + f4 := Go.IntWalk.i64_in _ ⟨by omega, by omega⟩
            by_cases hlt : (v : Int) < min ((y : Int) + 1 + f4) (H : Int)
            · have tl := decide_eq_true hlt
              have hvH : v < H := by omega
              have hmw := (unhide HMW) v hvH
              have HVH := hide hvH
              obtain ⟨vw, hvw⟩ : ∃ vw : Nat, v * W = vw := ⟨_, rfl⟩
              have wvw : IntKind.i64.wrap ((v : Int) * (W : Int)) = (vw : Int) := by
                rw [← Int.natCast_mul, hvw]
                exact Go.IntWalk.i64_in _ ⟨by omega, by omega⟩
              have hvwb : vw ≤ 576 := by omega
              have HIV : Hid (∀ u, u < W → vw + u < i) := hide (fun u hu => by rw [← hvw]; exact (unhide HIX) u v hu hvH)
              clear hvw hmw
              go_wp2_with fail
              go_loopw [14] (fun zz X => ∃ (u : Nat) (L : List Int), zz = .int .i64 (u : Int) ∧ x ≤ u ∧ u ≤ W ∧ Fz w B g (k + 3 + 100 * (3 - (j : Int)) + 9 + 3 * ((v : Int) - (y : Int)) + 3) W H (.slice (some ⟨q, 0, none⟩) i cap) i L X) (fun zz _ => W - (intOf zz).toNat)
              case atStart => exact ⟨x, L2, rfl, Nat.le_refl _, by omega, unhide HH1⟩
              case round =>
                obtain ⟨u, L3, rfl, hu1, hu2, hz⟩ := hrel
                have HI := hide hz
                clear hz HH1
                by_cases hlu : (u : Int) < min ((x : Int) + 4) (W : Int)
                · have tu := decide_eq_true hlu
                  have huW : u < W := by omega
                  have hix := (unhide HIV) u huW
                  have wix : IntKind.i64.wrap ((vw : Int) + (u : Int)) = ((vw + u : Nat) : Int) := (Go.IntWalk.i64_in _ ⟨by omega, by omega⟩).trans (by omega)
                  obtain ⟨ix, hixe⟩ : ∃ ix : Nat, vw + u = ix := ⟨_, rfl⟩
                  rw [hixe] at hix wix
                  have HIE := hide hixe
                  clear hixe
                  have i1 : (ix : Int) < (i : Int) := by omega
                  have i0 : (0 : Int) ≤ (ix : Int) := Int.natCast_nonneg _
                  have c2 := (unhide HI).v7.cell (m := 2) rfl
                  obtain ⟨xo, hxo⟩ : ∃ xo, L3[ix]? = some xo := ⟨_, List.getElem?_eq_getElem (by have := (unhide HI).row.len; omega)⟩
                  have cq := (unhide HI).row.cellAt hxo
                  have fq := (unhide HI).row.frz
                  clear hxo
                  go_wp2_with fail
                  go_roundw
                  case rel => exact ⟨u + 1, L3.set ix tp9, by simp, by omega, by omega, (unhide HI).put hB hq ix hix tp9⟩
                  case measure => simp only [intOf]; omega
                · have tu := decide_eq_false hlu
                  go_wp2_with fail
                  go_roundw
                  case rel => exact ⟨v + 1, L3, by simp, by omega, by omega, (unhide HI).up (by omega)⟩
                  case measure => simp only [intOf]; omega
            · have tl := decide_eq_false hlt
              have wj : IntKind.i64.wrap ((j : Int) - 1) = ((j - 1 : Nat) : Int) := (Go.IntWalk.i64_in _ ⟨by omega, by omega⟩).trans (by omega)
              go_wp2_with fail
              go_roundw
              case rel => exact ⟨j - 1, L2, by first | rfl | simp | (simp; omega), by omega, (unhide HH1).up (by omega)⟩
              case measure => simp only [intOf]; omega
        · have ljz : decide ((0 : Int) < (j : Int)) = false := decide_eq_false (by omega)
          obtain rfl : j = 0 := by omega
          have c0 := (unhide HG).v7.cell (m := 0) rfl
          have c1 := (unhide HG).v7.cell (m := 1) rfl
          have c2 := (unhide HG).v7.cell (m := 2) rfl
          have z0 := (unhide HG).v6.cell (m := 0) rfl
          have z1 := (unhide HG).v6.cell (m := 1) rfl
          have z2 := (unhide HG).v6.cell (m := 2) rfl
          have zf := (unhide HG).v6.frozen
          have vlt := (unhide HG).v6.lt
          go_wp2_with fail
          (try rw [Exit.noGoto_ret])
          refine bodyPost_ret (v := .agg #[.int .i64 (W : Int), .int .i64 (H : Int), .slice (some ⟨q, 0, none⟩) i cap]) (by simp [results, Try.results66, go_sem, c0, c1, c2, z0, z1, z2, vlt]) rfl ?_
          have hne : q ≠ w.heap.size := by omega
          have hle : w.heap.size ≤ w.heap.size := Nat.le_refl _
          refine ⟨q, cap, L, rfl, ((unhide HG).row.kept' (fun y hy => ?_)).mono (by omega), ?_, ?_⟩
          · simp only [Value.ownBlock, Option.some.injEq] at hy
            subst hy
            exact (Below.heap_setCell _ _ _ _ hne).trans ((Below.heap_setCell _ _ _ _ hne).trans (Below.heap_setCell _ _ _ _ hne))
          · exact ((((unhide HG).so.set (by omega) (by omega) _ _).set (by omega) (by omega) _ _).set (by omega) (by omega) _ _).up (by omega)
          · exact (((unhide HG).mv.new hle _ _).new hle _ _).new hle _ _
end Go.Proofs.Ytjhldjojkaphkaa
