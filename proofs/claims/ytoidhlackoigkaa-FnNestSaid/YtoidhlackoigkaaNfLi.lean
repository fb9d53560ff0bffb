/-
  lies: plates that lie as they should are found to lie so.
-/
import Derived.Test.YtoidhlackoigkaaNfA
import Derived.Test.YtoidhlackoigkaaNsNp
import Derived.Lib.MinMax
namespace Go.Proofs.Ytoidhlackoigkaa
open Go.ChangeShapes Go.WideShapes Go.ChangeAt Go.RowKit
set_option linter.unusedVariables false
set_option linter.unusedSimpArgs false

theorem bx_info : (Try.prog.info? 63).map (fun i => (i.zero, i.size, i.bytes)) = some (some (.agg #[.int .i64 0, .int .i64 0, .int .i64 0, .int .i64 0, .int .i64 0, .int .i64 0]), 6, 48) := by kernel_rfl
/-- the row of those that are done, and the boxes -/
structure Ls (w W : World) (N gd : Nat) (D : List Bool) (r : Value) (m : Nat) (F : List Int) : Prop where
  bel : Below w.heap.size w W
  dn : vb W gd 4 (D.map Value.bool)
  gd0 : w.heap.size ≤ gd
  row : Row W w.heap.size 63 6 r m F
  rb : ∀ q, r.ownBlock = some q → q < N ∧ q ≠ gd
  gdN : gd < N
  wN : N ≤ W.heap.size
theorem Ls.bl {w W W' : World} {N gd m : Nat} {D : List Bool} {r : Value} {F : List Int} (h : Ls w W N gd D r m F) (hb : Below W.heap.size W W') : Ls w W' N gd D r m F :=
  ⟨bc h.bel hb, h.dn.bel hb, h.gd0, h.row.below hb, h.rb, h.gdN, Nat.le_trans h.wN hb.size⟩
theorem Ls.al {w W : World} {N gd m : Nat} {D : List Bool} {r : Value} {F : List Int} (h : Ls w W N gd D r m F) (o : Obj) : Ls w (W.alloc o) N gd D r m F := h.bl (ba (Below.refl _ _) o)
theorem Ls.st {w W : World} {N gd m g o : Nat} {D : List Bool} {r : Value} {F : List Int} {v : Value} (h : Ls w W N gd D r m F) (hg : N ≤ g) : Ls w (W.setCell ⟨g, o, none⟩ v) N gd D r m F := by
  have h1 := h.gd0
  have h2 := h.gdN
  refine ⟨h.bel.trans ⟨rfl, rfl, rfl, by simp [World.setCell], fun k hk => Below.heap_setCell _ _ _ _ (show k ≠ g by omega)⟩, h.dn.ne (by omega), h1, h.row.kept' (fun q hq => Below.heap_setCell _ _ _ _ (show q ≠ g by have := (h.rb q hq).1; omega)), h.rb, h2, by have := h.wN; simpa [World.setCell] using this⟩
theorem Ls.ok {w W : World} {N gd m k : Nat} {D : List Bool} {r : Value} {F : List Int} (h : Ls w W N gd D r m F) : Ls w (W.setCell ⟨gd, k, none⟩ (.bool true)) N gd (D.set k true) r m F := by
  have h1 := h.gd0
  refine ⟨h.bel.trans ⟨rfl, rfl, rfl, by simp [World.setCell], fun k hk => Below.heap_setCell _ _ _ _ (show k ≠ gd by omega)⟩, ?_, h1, h.row.kept' (fun q hq => Below.heap_setCell _ _ _ _ (h.rb q hq).2), h.rb, h.gdN, by have := h.wN; simpa [World.setCell] using this⟩
  rw [List.map_set]
  exact h.dn.set k _
theorem Ls.nw {w W : World} {N gd m : Nat} {D : List Bool} {r : Value} {F : List Int} (h : Ls w W N gd D r m F) : Ls w W W.heap.size gd D r m F :=
  ⟨h.bel, h.dn, h.gd0, h.row, fun q hq => ⟨(h.row.lt q hq).2, (h.rb q hq).2⟩, h.dn.lt, Nat.le_refl _⟩
theorem Ls.ap {w W W' : World} {N gd m : Nat} {D : List Bool} {r r' : Value} {F G : List Int} (h : Ls w W N gd D r m F) (hown : W'.ownsRow w.heap.size 63 6 r' (m + 1) (F.map (Value.int .i64) ++ G.map (Value.int .i64))) (hgr : W.grownBy W' r.ownBlock) (hn : NewBlk W r r') : Ls w W' W'.heap.size gd D r' (m + 1) (F ++ G) := by
  have hnd : r.ownBlock ≠ some gd := fun e => (h.rb gd e).2 rfl
  have hd : vb W' gd 4 (D.map Value.bool) := (hgr.block gd h.dn.lt (fun e => hnd e.symm)).trans h.dn
  have hr : Row W' w.heap.size 63 6 r' (m + 1) (F ++ G) := by unfold Row; rw [List.map_append]; exact hown
  refine ⟨h.bel.trans ⟨hgr.os, hgr.tape, hgr.output, hgr.size, fun k hk => hgr.block k (Nat.lt_of_lt_of_le hk h.bel.size) (fun e => by have := (h.row.lt k e.symm).1; omega)⟩, hd, h.gd0, hr, fun q hq => ⟨(hr.lt q hq).2, fun e => ?_⟩, hd.lt, Nat.le_refl _⟩
  subst e
  rcases hn q hq with h1 | h1
  · exact hnd h1
  · have := h.dn.lt; omega
def bx (l : Ld) : List Int := [l.a.x, l.a.y, 0, l.a.x + l.a.w, l.a.y + l.a.h, 0]
def bxs (L : List Ld) : List Int := L.flatMap bx
theorem bxs_at {L : List Ld} {j : Nat} {l : Ld} (h : L[j]? = some l) (c : Nat) (hc : c < 6) : (bxs L)[j * 6 + c]? = (bx l)[c]? := by
  induction L generalizing j with
  | nil => cases h
  | cons a L ih =>
    have e : bxs (a :: L) = bx a ++ bxs L := rfl
    cases j with
    | zero =>
      simp at h
      subst h
      rw [e, Nat.zero_mul, Nat.zero_add, List.getElem?_append_left (by simpa [bx] using hc)]
    | succ j =>
      rw [List.getElem?_cons_succ] at h
      rw [e, List.getElem?_append_right (by simp [bx]; omega), show (j + 1) * 6 + c - (bx a).length = j * 6 + c by simp [bx]; omega]
      exact ih h
theorem bxs_take {L : List Ld} {i : Nat} {l : Ld} (h : L[i]? = some l) : bxs (L.take (i + 1)) = bxs (L.take i) ++ bx l := by
  rw [List.take_add_one, h]
  simp [bxs]
set_option maxHeartbeats 8000000 in
set_option maxRecDepth 100000 in
theorem lies_any (Wd : Int) (up us : Option Addr) (pp ps n cp cs : Nat) (P : List Pl) (L : List Ld) (w : World) (hW : Wd ≤ 1000) (hP : P.length = n) (hn : n ≤ 900) (hl : Lie Wd P L) (hu : Pls w up pp 0 P) (hs : SlG spC 4 w us ps 0 L) :
    Calls Try.prog 11 #[.int .i64 Wd, .int .i64 (hgtOf L), .slice up n cp, .slice us n cs] w fun e w' => e = .returned (.bool true) ∧ Below w.heap.size w w' := by
  have n0 : (0 : Int) ≤ (n : Int) := Int.natCast_nonneg _
  have nn : ((n : Int) != (n : Int)) = false := by simp
  have hmk := fun W => make_bl n (by omega) W
  obtain ⟨iP, hi1, hp0, hp1, hp2⟩ := info_parts bx_info
  have HL := hide (hl.len.trans hP)
  have HLI := hide hl
  have hu' : ∀ {k : Nat} {p : Pl}, P[k]? = some p → pp < w.heap.size := fun h => (hu.at h).2.1
  have HU := hide (fun X (hX : Below w.heap.size w X) => hu.bel hX)
  have HSP := hide (fun X (hX : Below w.heap.size w X) => hs.bel hX)
  generalize hzz : (List.replicate n false).map Value.bool = Z at hmk
  have HS0 : Hid (Ls w ((w.alloc (.cells Z.toArray 4)).alloc (.cells #[] 63)) (w.heap.size + 2) w.heap.size (List.replicate n false) (.slice (some ⟨w.heap.size + 1, 0, none⟩) 0 0) 0 []) := hide ⟨ba (ba (Below.refl _ _) _) _, (by rw [hzz]; exact (vb_new w 4 _ _ rfl).bel (ba (Below.refl _ _) _)), Nat.le_refl _, row_made _ 63 w.heap.size 6 (by simp) _ (by simp), fun q hq => by simp [Value.ownBlock] at hq; omega, by omega, by simp⟩
  generalize hG : hgtOf L = G at *
  have HG := hide hG
  clear hl hu hs hP hG hzz
  go_enter Try.func11, Try.ntmps11
  go_wp2_with fail
  go_loopw [10, 11, 12, 13, 14, 15, 16, 17] (fun tp r s _ _ _ _ _ W => ∃ (i : Nat) (D : List Bool) (N : Nat), s = .int .i64 (i : Int) ∧ i ≤ n ∧ tp = .int .i64 (hgtOf (L.take i)) ∧ Ls w W N w.heap.size D r i (bxs (L.take i)) ∧ D.length = n ∧ ∀ (k : Nat), D[k]? = some true → ∃ (j : Nat) (l' : Ld), j < i ∧ L[j]? = some l' ∧ l'.n = (k : Int)) (fun _ _ s _ _ _ _ _ _ => n - (intOf s).toNat)
  case atStart => exact ⟨0, _, _, rfl, by omega, rfl, unhide HS0, by simp, fun k hk => by rw [List.getElem?_replicate] at hk; split at hk <;> cases hk⟩
  case round =>
    obtain ⟨i, D, N, rfl, hi, rfl, hls, hD, hDk⟩ := hrel
    have HS := hide hls.nw
    have HD := hide hD
    have HDK := hide hDk
    clear hls hD hDk HS0
    obtain ⟨ua, ca, hua, _⟩ := (unhide HS).row.form
    subst hua
    have i0 : (0 : Int) ≤ (i : Int) := Int.natCast_nonneg _
    by_cases h : i < n
    · have i1 : (i : Int) < (n : Int) := by omega
      have iz : decide ((i : Int) < (n : Int)) = true := decide_eq_true i1
      obtain ⟨l, hx⟩ := get_some (unhide HL) h
      obtain ⟨k, p, ek, hp, ew, eh, hin, hfr, hne⟩ := (unhide HLI).it i l hx
      have hnr := (unhide HLI).near.nr l (List.mem_of_getElem? hx)
      have hH : l.a.y + l.a.h ≤ G := by rw [← unhide HG]; exact hgt_ge (List.mem_of_getElem? hx)
      obtain ⟨rfl, pw, k9⟩ := (unhide HSP _ (unhide HS).bel).at hx
      obtain ⟨rfl, qw, c0, c1⟩ := (unhide HU _ (unhide HS).bel).at hp
      have kn : k < n := by
        have := (List.getElem?_eq_some_iff.1 hp).1
        have := (unhide HLI).len
        have := unhide HL
        omega
      have k0 := k9 0 _ rfl
      have k1 := k9 1 _ rfl
      have k2 := k9 2 _ rfl
      have k3 := k9 3 _ rfl
      have dk : D[k]? = some false := by
        obtain ⟨b, hb⟩ := get_some (unhide HD) kn
        cases b with
        | false => exact hb
        | true =>
          obtain ⟨j, l', hj, hl', e'⟩ := unhide HDK k hb
          exact absurd (e'.trans ek.symm) (hne j l' hj hl')
      have cd := (unhide HS).dn.cell (m := k) (x := .bool false) (by rw [List.getElem?_map, dk]; rfl)
      have fd := (unhide HS).dn.frozen
      have gw := (unhide HS).gdN
      rw [ek] at k0
      simp only [Nat.zero_add, Nat.add_zero] at k0 k1 k2 k3 c0 c1
      unfold Nr at hnr
      obtain ⟨⟨x0, x1⟩, ⟨y0, y1⟩, ⟨w0, w1⟩, h0, h1⟩ := hnr
      have kz : decide ((k : Int) < 0) = false := decide_eq_false (by omega)
      have kz2 : decide ((n : Int) ≤ (k : Int)) = false := decide_eq_false (by omega)
      have kI : (k : Int) < (n : Int) := by omega
      have pg : pp ≠ w.heap.size := by
        have := (hu' hp)
        omega
      have wx : IntKind.i64.wrap (l.a.x + l.a.w) = l.a.x + l.a.w := wrap_i (by omega) (by omega)
      have wy : IntKind.i64.wrap (l.a.y + l.a.h) = l.a.y + l.a.h := wrap_i (by omega) (by omega)
      have z1 : decide (l.a.x < 0) = false := decide_eq_false (by omega)
      have z2 : decide (l.a.y < 0) = false := decide_eq_false (by omega)
      have z3 : decide (Wd < l.a.x + l.a.w) = false := decide_eq_false (by omega)
      have z4 : decide (G < l.a.y + l.a.h) = false := decide_eq_false (by omega)
      have HFR := hide hfr
      have HDK2 : Hid ((D.set k true).length = n ∧ ∀ (q : Nat), (D.set k true)[q]? = some true → ∃ (j : Nat) (l' : Ld), j < i + 1 ∧ L[j]? = some l' ∧ l'.n = (q : Int)) := hide ⟨by rw [List.length_set]; exact unhide HD, fun q hq => by
        by_cases e : q = k
        · subst e; exact ⟨i, l, by omega, hx, ek⟩
        · rw [List.getElem?_set_ne (fun e' => e e'.symm)] at hq
          obtain ⟨j, l', a, b, c⟩ := unhide HDK q hq
          exact ⟨j, l', by omega, b, c⟩⟩
      have HBT := hide (bxs_take hx)
      have HHT := hide (hgtOf_take hx)
      have kz3 : decide (n ≤ k) = false := decide_eq_false (by omega)
      clear k9 hin hfr hne hH dk hx hp HDK HD HG HLI HSP HU
      obtain ⟨V, hV⟩ : ∃ V, V = wr := ⟨_, rfl⟩
      subst hV
      cases ht : l.t with
      | false =>
        rw [ht] at k3 ew eh
        have c0' : V.cell? ⟨pp, k * 2, none⟩ = some (.int .i64 l.a.w) := by rw [c0, ew]; rfl
        have c1' : V.cell? ⟨pp, k * 2 + 1, none⟩ = some (.int .i64 l.a.h) := by rw [c1, eh]; rfl
        clear ew eh c0 c1
        go_wp2_with fail
        go_loopw [16, 17] (fun s _ W => ∃ j : Nat, s = .int .i64 (j : Int) ∧ j ≤ i ∧ Ls w W V.heap.size w.heap.size (D.set k true) (.slice ua i ca) i (bxs (L.take i)) ∧ vb W (V.heap.size + 1 + 1) 63 [.int .i64 l.a.x, .int .i64 l.a.y, .int .i64 0, .int .i64 (l.a.x + l.a.w), .int .i64 (l.a.y + l.a.h), .int .i64 0]) (fun s _ _ => i - (intOf s).toNat)
        case atStart => exact ⟨0, rfl, by omega, (((unhide HS).ok.al _).al _).al _, vb_new _ 63 _ _ (by simp [World.setCell])⟩
        case round =>
          obtain ⟨j, rfl, hj, hls, hvb⟩ := hrel
          have HS2 := hide hls
          have HV2 := hide hvb
          have hgb : V.heap.size + 1 + 1 < wr.heap.size := hvb.lt
          have b0 := hvb.cell (m := 0) rfl
          have b1 := hvb.cell (m := 1) rfl
          have b2 := hvb.cell (m := 2) rfl
          have b3 := hvb.cell (m := 3) rfl
          have b4 := hvb.cell (m := 4) rfl
          have b5 := hvb.cell (m := 5) rfl
          have j0 : (0 : Int) ≤ (j : Int) := Int.natCast_nonneg _
          clear HS k0 k1 k2 k3 c0' c1' cd fd hls hvb
          by_cases hji : j < i
          · have j1 : (j : Int) < (i : Int) := by omega
            have jz : decide ((j : Int) < (i : Int)) = true := decide_eq_true j1
            obtain ⟨l', hx'⟩ := get_some (unhide HL) (show j < n by omega)
            have hxt : (L.take i)[j]? = some l' := by rw [List.getElem?_take_of_lt hji]; exact hx'
            obtain ⟨gr, car, hr, _, hgr, _, _⟩ := (unhide HS2).row.sm (by intro e; cases e; omega)
            cases hr
            have o0 := (unhide HS2).row.cellAt (bxs_at hxt 0 (by omega))
            have o1 := (unhide HS2).row.cellAt (bxs_at hxt 1 (by omega))
            have o2 := (unhide HS2).row.cellAt (bxs_at hxt 2 (by omega))
            have o3 := (unhide HS2).row.cellAt (bxs_at hxt 3 (by omega))
            have o4 := (unhide HS2).row.cellAt (bxs_at hxt 4 (by omega))
            have o5 := (unhide HS2).row.cellAt (bxs_at hxt 5 (by omega))
            rw [Nat.add_zero] at o0
            have ho : ¬ (l.a.x < l'.a.x + l'.a.w ∧ l'.a.x < l.a.x + l.a.w ∧ l.a.y < l'.a.y + l'.a.h ∧ l'.a.y < l.a.y + l.a.h) := by
              intro hh
              have h1 := ovr_iff.2 hh
              have h2 := free_iff.1 (unhide HFR) l'.a (List.mem_map.2 ⟨l', List.mem_of_getElem? hxt, rfl⟩)
              rw [h1] at h2
              cases h2
            clear hx' hxt
            by_cases e0 : l.a.x < l'.a.x + l'.a.w
            · have f0 : decide (l.a.x < l'.a.x + l'.a.w) = true := decide_eq_true e0
              by_cases e1 : l'.a.x < l.a.x + l.a.w
              · have f1 : decide (l'.a.x < l.a.x + l.a.w) = true := decide_eq_true e1
                by_cases e2 : l.a.y < l'.a.y + l'.a.h
                · have f2 : decide (l.a.y < l'.a.y + l'.a.h) = true := decide_eq_true e2
                  by_cases e3 : l'.a.y < l.a.y + l.a.h
                  · have f3 : decide (l'.a.y < l.a.y + l.a.h) = true := decide_eq_true e3
                    exact absurd ⟨e0, e1, e2, e3⟩ ho
                  · have f3 : decide (l'.a.y < l.a.y + l.a.h) = false := decide_eq_false e3
                    go_wp2_with fail
                    go_roundw
                    case rel => first | exact ⟨j + 1, by simp, by omega, (unhide HS2).al _, (unhide HV2).bel (ba (Below.refl _ _) _)⟩ | ((repeat apply Exists.intro); refine ⟨?_, rfl⟩; exact ⟨j + 1, by simp, by omega, (unhide HS2).al _, (unhide HV2).bel (ba (Below.refl _ _) _)⟩)
                    case measure => first | (simp only [intOf]; omega) | (simp [intOf]; omega)
                · have f2 : decide (l.a.y < l'.a.y + l'.a.h) = false := decide_eq_false e2
                  go_wp2_with fail
                  go_roundw
                  case rel => first | exact ⟨j + 1, by simp, by omega, (unhide HS2).al _, (unhide HV2).bel (ba (Below.refl _ _) _)⟩ | ((repeat apply Exists.intro); refine ⟨?_, rfl⟩; exact ⟨j + 1, by simp, by omega, (unhide HS2).al _, (unhide HV2).bel (ba (Below.refl _ _) _)⟩)
                  case measure => first | (simp only [intOf]; omega) | (simp [intOf]; omega)
              · have f1 : decide (l'.a.x < l.a.x + l.a.w) = false := decide_eq_false e1
                go_wp2_with fail
                go_roundw
                case rel => first | exact ⟨j + 1, by simp, by omega, (unhide HS2).al _, (unhide HV2).bel (ba (Below.refl _ _) _)⟩ | ((repeat apply Exists.intro); refine ⟨?_, rfl⟩; exact ⟨j + 1, by simp, by omega, (unhide HS2).al _, (unhide HV2).bel (ba (Below.refl _ _) _)⟩)
                case measure => first | (simp only [intOf]; omega) | (simp [intOf]; omega)
            · have f0 : decide (l.a.x < l'.a.x + l'.a.w) = false := decide_eq_false e0
              go_wp2_with fail
              go_roundw
              case rel => first | exact ⟨j + 1, by simp, by omega, (unhide HS2).al _, (unhide HV2).bel (ba (Below.refl _ _) _)⟩ | ((repeat apply Exists.intro); refine ⟨?_, rfl⟩; exact ⟨j + 1, by simp, by omega, (unhide HS2).al _, (unhide HV2).bel (ba (Below.refl _ _) _)⟩)
              case measure => first | (simp only [intOf]; omega) | (simp [intOf]; omega)
          · have jz : decide ((j : Int) < (i : Int)) = false := decide_eq_false (by omega)
            go_wp2_with (at_builtin; refine unhide ?_)
            refine hide ?_
            refine wpList_append_new _ rfl _ _ 59 rfl w.heap.size 63 iP _ 6 48 Try.underlying59 hi1 hp0 hp1 hp2 rfl (by decide) _ _ _ rfl ((unhide HS2).row.below (ba (Below.refl _ _) _)) _ 1 1 ((bx l).map (Value.int .i64)) rfl rfl (by first | exact news_cells _ _ rfl | exact news_cells _ _ (by simp)) ints_one (by unfold maxLen; omega) (by omega) (by have := (unhide HS2).bel.size; first | omega | (simp; omega)) ?_
            intro ra' wza hown' hgrow _ hnew
            have HS3 := hide (((unhide HS2).al (Obj.cells #[.int .i64 l.a.x, .int .i64 l.a.y, .int .i64 0, .int .i64 (l.a.x + l.a.w), .int .i64 (l.a.y + l.a.h), .int .i64 0] 63)).ap (G := bx l) hown' hgrow hnew)
            have hvb2 : vb wza (V.heap.size + 1 + 1) 63 [.int .i64 l.a.x, .int .i64 l.a.y, .int .i64 0, .int .i64 (l.a.x + l.a.w), .int .i64 (l.a.y + l.a.h), .int .i64 0] := by
              have e := (unhide HV2).bel (ba (Below.refl _ _) (Obj.cells #[.int .i64 l.a.x, .int .i64 l.a.y, .int .i64 0, .int .i64 (l.a.x + l.a.w), .int .i64 (l.a.y + l.a.h), .int .i64 0] 63))
              exact (hgrow.block _ e.lt (fun e' => by have := ((unhide HS2).rb _ e'.symm).1; omega)).trans e
            have q4 := hvb2.cell (m := 4) rfl
            clear hown' hgrow hnew hvb2 b0 b1 b2 b3 b4 b5 HS2 HV2
            go_wp2_with fail
            go_roundw
            case rel =>
              have R : ∃ (i_1 : Nat) (D_1 : List Bool) (N_1 : Nat), (Value.int .i64 ((i : Int) + 1)) = .int .i64 (i_1 : Int) ∧ i_1 ≤ n ∧ (Value.int .i64 (max (hgtOf (L.take i)) (l.a.y + l.a.h))) = .int .i64 (hgtOf (L.take i_1)) ∧ Ls w wza N_1 w.heap.size D_1 ra' i_1 (bxs (L.take i_1)) ∧ D_1.length = n ∧ ∀ (k : Nat), D_1[k]? = some true → ∃ (j : Nat) (l' : Ld), j < i_1 ∧ L[j]? = some l' ∧ l'.n = (k : Int) :=
                ⟨i + 1, D.set k true, wza.heap.size, by simp, by omega, by rw [unhide HHT], by rw [unhide HBT]; exact unhide HS3, (unhide HDK2).1, (unhide HDK2).2⟩
              first | exact R | (refine ⟨?_, rfl⟩; exact R) | ((repeat apply Exists.intro); refine ⟨?_, rfl⟩; exact R)
            case measure => first | (simp only [intOf]; omega) | (simp [intOf]; omega)
      | true =>
        rw [ht] at k3 ew eh
        have c0' : V.cell? ⟨pp, k * 2, none⟩ = some (.int .i64 l.a.h) := by rw [c0, eh]; rfl
        have c1' : V.cell? ⟨pp, k * 2 + 1, none⟩ = some (.int .i64 l.a.w) := by rw [c1, ew]; rfl
        clear ew eh c0 c1
        go_wp2_with fail
        go_loopw [16, 17] (fun s _ W => ∃ j : Nat, s = .int .i64 (j : Int) ∧ j ≤ i ∧ Ls w W V.heap.size w.heap.size (D.set k true) (.slice ua i ca) i (bxs (L.take i)) ∧ vb W (V.heap.size + 1 + 1) 63 [.int .i64 l.a.x, .int .i64 l.a.y, .int .i64 0, .int .i64 (l.a.x + l.a.w), .int .i64 (l.a.y + l.a.h), .int .i64 0]) (fun s _ _ => i - (intOf s).toNat)
        case atStart => exact ⟨0, rfl, by omega, (((unhide HS).ok.al _).al _).al _, vb_new _ 63 _ _ (by simp [World.setCell])⟩
        case round =>
          obtain ⟨j, rfl, hj, hls, hvb⟩ := hrel
          have HS2 := hide hls
          have HV2 := hide hvb
          have hgb : V.heap.size + 1 + 1 < wr.heap.size := hvb.lt
          have b0 := hvb.cell (m := 0) rfl
          have b1 := hvb.cell (m := 1) rfl
          have b2 := hvb.cell (m := 2) rfl
          have b3 := hvb.cell (m := 3) rfl
          have b4 := hvb.cell (m := 4) rfl
          have b5 := hvb.cell (m := 5) rfl
          have j0 : (0 : Int) ≤ (j : Int) := Int.natCast_nonneg _
          clear HS k0 k1 k2 k3 c0' c1' cd fd hls hvb
          by_cases hji : j < i
          · have j1 : (j : Int) < (i : Int) := by omega
            have jz : decide ((j : Int) < (i : Int)) = true := decide_eq_true j1
            obtain ⟨l', hx'⟩ := get_some (unhide HL) (show j < n by omega)
            have hxt : (L.take i)[j]? = some l' := by rw [List.getElem?_take_of_lt hji]; exact hx'
            obtain ⟨gr, car, hr, _, hgr, _, _⟩ := (unhide HS2).row.sm (by intro e; cases e; omega)
            cases hr
            have o0 := (unhide HS2).row.cellAt (bxs_at hxt 0 (by omega))
            have o1 := (unhide HS2).row.cellAt (bxs_at hxt 1 (by omega))
            have o2 := (unhide HS2).row.cellAt (bxs_at hxt 2 (by omega))
            have o3 := (unhide HS2).row.cellAt (bxs_at hxt 3 (by omega))
            have o4 := (unhide HS2).row.cellAt (bxs_at hxt 4 (by omega))
            have o5 := (unhide HS2).row.cellAt (bxs_at hxt 5 (by omega))
            rw [Nat.add_zero] at o0
            have ho : ¬ (l.a.x < l'.a.x + l'.a.w ∧ l'.a.x < l.a.x + l.a.w ∧ l.a.y < l'.a.y + l'.a.h ∧ l'.a.y < l.a.y + l.a.h) := by
              intro hh
              have h1 := ovr_iff.2 hh
              have h2 := free_iff.1 (unhide HFR) l'.a (List.mem_map.2 ⟨l', List.mem_of_getElem? hxt, rfl⟩)
              rw [h1] at h2
              cases h2
            clear hx' hxt
            by_cases e0 : l.a.x < l'.a.x + l'.a.w
            · have f0 : decide (l.a.x < l'.a.x + l'.a.w) = true := decide_eq_true e0
              by_cases e1 : l'.a.x < l.a.x + l.a.w
              · have f1 : decide (l'.a.x < l.a.x + l.a.w) = true := decide_eq_true e1
                by_cases e2 : l.a.y < l'.a.y + l'.a.h
                · have f2 : decide (l.a.y < l'.a.y + l'.a.h) = true := decide_eq_true e2
                  by_cases e3 : l'.a.y < l.a.y + l.a.h
                  · have f3 : decide (l'.a.y < l.a.y + l.a.h) = true := decide_eq_true e3
                    exact absurd ⟨e0, e1, e2, e3⟩ ho
                  · have f3 : decide (l'.a.y < l.a.y + l.a.h) = false := decide_eq_false e3
                    go_wp2_with fail
                    go_roundw
                    case rel => first | exact ⟨j + 1, by simp, by omega, (unhide HS2).al _, (unhide HV2).bel (ba (Below.refl _ _) _)⟩ | ((repeat apply Exists.intro); refine ⟨?_, rfl⟩; exact ⟨j + 1, by simp, by omega, (unhide HS2).al _, (unhide HV2).bel (ba (Below.refl _ _) _)⟩)
                    case measure => first | (simp only [intOf]; omega) | (simp [intOf]; omega)
                · have f2 : decide (l.a.y < l'.a.y + l'.a.h) = false := decide_eq_false e2
                  go_wp2_with fail
                  go_roundw
                  case rel => first | exact ⟨j + 1, by simp, by omega, (unhide HS2).al _, (unhide HV2).bel (ba (Below.refl _ _) _)⟩ | ((repeat apply Exists.intro); refine ⟨?_, rfl⟩; exact ⟨j + 1, by simp, by omega, (unhide HS2).al _, (unhide HV2).bel (ba (Below.refl _ _) _)⟩)
                  case measure => first | (simp only [intOf]; omega) | (simp [intOf]; omega)
              · have f1 : decide (l'.a.x < l.a.x + l.a.w) = false := decide_eq_false e1
                go_wp2_with fail
                go_roundw
                case rel => first | exact ⟨j + 1, by simp, by omega, (unhide HS2).al _, (unhide HV2).bel (ba (Below.refl _ _) _)⟩ | ((repeat apply Exists.intro); refine ⟨?_, rfl⟩; exact ⟨j + 1, by simp, by omega, (unhide HS2).al _, (unhide HV2).bel (ba (Below.refl _ _) _)⟩)
                case measure => first | (simp only [intOf]; omega) | (simp [intOf]; omega)
            · have f0 : decide (l.a.x < l'.a.x + l'.a.w) = false := decide_eq_false e0
              go_wp2_with fail
              go_roundw
              case rel => first | exact ⟨j + 1, by simp, by omega, (unhide HS2).al _, (unhide HV2).bel (ba (Below.refl _ _) _)⟩ | ((repeat apply Exists.intro); refine ⟨?_, rfl⟩; exact ⟨j + 1, by simp, by omega, (unhide HS2).al _, (unhide HV2).bel (ba (Below.refl _ _) _)⟩)
              case measure => first | (simp only [intOf]; omega) | (simp [intOf]; omega)
          · have jz : decide ((j : Int) < (i : Int)) = false := decide_eq_false (by omega)
            go_wp2_with (at_builtin; refine unhide ?_)
            refine hide ?_
            refine wpList_append_new _ rfl _ _ 59 rfl w.heap.size 63 iP _ 6 48 Try.underlying59 hi1 hp0 hp1 hp2 rfl (by decide) _ _ _ rfl ((unhide HS2).row.below (ba (Below.refl _ _) _)) _ 1 1 ((bx l).map (Value.int .i64)) rfl rfl (by first | exact news_cells _ _ rfl | exact news_cells _ _ (by simp)) ints_one (by unfold maxLen; omega) (by omega) (by have := (unhide HS2).bel.size; first | omega | (simp; omega)) ?_
            intro ra' wza hown' hgrow _ hnew
            have HS3 := hide (((unhide HS2).al (Obj.cells #[.int .i64 l.a.x, .int .i64 l.a.y, .int .i64 0, .int .i64 (l.a.x + l.a.w), .int .i64 (l.a.y + l.a.h), .int .i64 0] 63)).ap (G := bx l) hown' hgrow hnew)
            have hvb2 : vb wza (V.heap.size + 1 + 1) 63 [.int .i64 l.a.x, .int .i64 l.a.y, .int .i64 0, .int .i64 (l.a.x + l.a.w), .int .i64 (l.a.y + l.a.h), .int .i64 0] := by
              have e := (unhide HV2).bel (ba (Below.refl _ _) (Obj.cells #[.int .i64 l.a.x, .int .i64 l.a.y, .int .i64 0, .int .i64 (l.a.x + l.a.w), .int .i64 (l.a.y + l.a.h), .int .i64 0] 63))
              exact (hgrow.block _ e.lt (fun e' => by have := ((unhide HS2).rb _ e'.symm).1; omega)).trans e
            have q4 := hvb2.cell (m := 4) rfl
            clear hown' hgrow hnew hvb2 b0 b1 b2 b3 b4 b5 HS2 HV2
            go_wp2_with fail
            go_roundw
            case rel =>
              have R : ∃ (i_1 : Nat) (D_1 : List Bool) (N_1 : Nat), (Value.int .i64 ((i : Int) + 1)) = .int .i64 (i_1 : Int) ∧ i_1 ≤ n ∧ (Value.int .i64 (max (hgtOf (L.take i)) (l.a.y + l.a.h))) = .int .i64 (hgtOf (L.take i_1)) ∧ Ls w wza N_1 w.heap.size D_1 ra' i_1 (bxs (L.take i_1)) ∧ D_1.length = n ∧ ∀ (k : Nat), D_1[k]? = some true → ∃ (j : Nat) (l' : Ld), j < i_1 ∧ L[j]? = some l' ∧ l'.n = (k : Int) :=
                ⟨i + 1, D.set k true, wza.heap.size, by simp, by omega, by rw [unhide HHT], by rw [unhide HBT]; exact unhide HS3, (unhide HDK2).1, (unhide HDK2).2⟩
              first | exact R | (refine ⟨?_, rfl⟩; exact R) | ((repeat apply Exists.intro); refine ⟨?_, rfl⟩; exact R)
            case measure => first | (simp only [intOf]; omega) | (simp [intOf]; omega)
    · have iz : decide ((i : Int) < (n : Int)) = false := decide_eq_false (by omega)
      have HB := hide (unhide HS).bel
      have hT : hgtOf (L.take i) = G := by
        rw [List.take_of_length_le (by have := unhide HL; omega)]
        exact unhide HG
      have gg : (G == G) = true := by simp
      rw [hT]
      go_wp2_with fail
      go_ret
      exact ⟨rfl, unhide HB⟩
end Go.Proofs.Ytoidhlackoigkaa
