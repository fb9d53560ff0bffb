/-
  A new hall.
-/
import Derived.Test.YtbgekppggakdoaaRpA
import Derived.Test.YtbgekppggakdoaaHlF
namespace Go.Proofs.Ytbgekppggakdoaa
open Go.ChangeShapes Go.WideShapes Go.ChangeAt Go.RowKit
set_option linter.unusedVariables false
set_option linter.unusedSimpArgs false

theorem vb.drew {w : World} {g t : Nat} {vs : List Value} (h : vb w g t vs) : vb w.drew g t vs := h
theorem pg_info : (Try.prog.info? 87).map (fun i => (i.zero, i.size, i.bytes)) = some (some (.agg #[.int .i64 0, .int .i64 0]), 2, 16) := by kernel_rfl
theorem make_pg (n : Nat) (hn : n ≤ 1048576) (W : World) :
    (Instr.makeSlice 83 (.int .i64 (n : Int)) (.int .i64 (n : Int))).run Try.prog W = .ok (.slice (some ⟨W.heap.size, 0, none⟩) n n) (W.alloc (.cells (flatG pgc (List.replicate n (0, 0))).toArray 87)) := by
  obtain ⟨i, hx, h0, h1, h2⟩ := info_parts pg_info
  have := run_make (P := Try.prog) W 83 87 i _ Try.underlying83 hx h0 .i64 .i64 n n (by omega) (by omega) (by rw [h2]; omega) (by omega)
  rw [Int.toNat_natCast, h1, made_flat (c := pgc) (by omega) pgc_len ((0, 0) : Nat × Int) _ rfl] at this
  exact this
set_option maxRecDepth 100000 in
set_option maxHeartbeats 8000000 in
theorem newH_any (m : Nat) (S L : Int) (u : Option Addr) (n c : Nat) (J : List Jb) (w : World) (h1 : 1 ≤ m) (h2 : m ≤ 6) (hn : n ≤ 4096) (hl : J.length = n) :
    Calls Try.prog 57 #[.agg #[.int .i64 (m : Int), .int .i64 S, .int .i64 L], .slice u n c] w fun e w' => (∃ hb gm gs, e = .returned (.pointer (some ⟨hb, 0, none⟩)) ∧ w.heap.size ≤ hb ∧ w.heap.size ≤ gm ∧ w.heap.size ≤ gs ∧ Hm w' hb gm gs m S L u n c (h0 (m : Int) J)) ∧ Below w.heap.size w w' := by
  have HH0 : Hid (h0 (m : Int) J = ⟨List.replicate m mc0, List.replicate n (0, 0)⟩) := hide (by unfold h0; rw [hl, Int.toNat_natCast])
  have hmk := make_pg n (by omega)
  have n0 : (0 : Int) ≤ (n : Int) := Int.natCast_nonneg _
  generalize hZ : flatG pgc (List.replicate n (0, 0)) = Z at hmk
  have HZ := hide hZ
  clear hZ hl
  have HC := hide (fun W gx (hx0 : W.cell? ⟨gx, 0, none⟩ = some (.int .i64 (-1))) (hx1 : W.cell? ⟨gx, 1, none⟩ = some (.int .i64 0)) (hx2 : W.cell? ⟨gx, 2, none⟩ = some (.int .i64 0)) => rep_any m gx h1 h2 W hx0 hx1 hx2)
  go_enter Try.func57, Try.ntmps57
  go_wp2_with fail
  have VA : Hid (vb (((w.alloc (.cells #[.int .i64 (m : Int), .int .i64 S, .int .i64 L] 27)).alloc (.cells Z.toArray 87)).alloc (.cells #[.int .i64 (-1), .int .i64 0, .int .i64 0] 122)) (w.heap.size + 1) 87 Z) := hide ((vb_new _ 87 Z _ (by simp)).bel (ba (Below.refl _ _) _))
  have VB : Hid (vb (((w.alloc (.cells #[.int .i64 (m : Int), .int .i64 S, .int .i64 L] 27)).alloc (.cells #[.int .i64 (-1), .int .i64 0, .int .i64 0] 122)).alloc (.cells Z.toArray 87)) (w.heap.size + 1 + 1) 87 Z) := hide (vb_new _ 87 Z _ (by simp))
  have B1 : Hid (Below w.heap.size w ((w.alloc (.cells #[.int .i64 (m : Int), .int .i64 S, .int .i64 L] 27)).alloc (.cells #[.int .i64 (-1), .int .i64 0, .int .i64 0] 122))) := hide (ba (ba (Below.refl _ _) _) _)
  have B2 : Hid (Below w.heap.size w (((w.alloc (.cells #[.int .i64 (m : Int), .int .i64 S, .int .i64 L] 27)).alloc (.cells Z.toArray 87)).alloc (.cells #[.int .i64 (-1), .int .i64 0, .int .i64 0] 122))) := hide (ba (ba (ba (Below.refl _ _) _) _) _)
  have B3 : Hid (Below w.heap.size w (((w.alloc (.cells #[.int .i64 (m : Int), .int .i64 S, .int .i64 L] 27)).alloc (.cells #[.int .i64 (-1), .int .i64 0, .int .i64 0] 122)).alloc (.cells Z.toArray 87))) := hide (ba (ba (ba (Below.refl _ _) _) _) _)
  go_region_held3 (fun wx => wx.cell? ⟨w.heap.size, 0, none⟩ = some (.int .i64 (m : Int)) ∧ wx.cell? ⟨w.heap.size, 1, none⟩ = some (.int .i64 S) ∧ wx.cell? ⟨w.heap.size, 2, none⟩ = some (.int .i64 L))
    (simp (maxDischargeDepth := 12) [go_sem, le1, lt1, *])
    (first
    | (go_at_call 69; refine (unhide HC _ _ (by simp (maxDischargeDepth := 12) [go_sem, le1, lt1, *]) (by simp (maxDischargeDepth := 12) [go_sem, le1, lt1, *]) (by simp (maxDischargeDepth := 12) [go_sem, le1, lt1, *])).mono ?_; rintro e w9 ⟨⟨g9, rfl, hg9, hv9⟩, hb9⟩; have HV9 := hide hv9; have HB9 : Hid (Below w.heap.size w w9) := hide (bc (by repeat (first | exact unhide B1 | exact unhide B2 | exact unhide B3 | refine Below.drew ?_)) hb9); have HBX := hide hb9; have HG9 : Hid (w.heap.size + 1 + 1 ≤ g9) := hide (by have := hg9; simp at this; omega); have HGS := hide hg9; have c0 := keep1 hb9 (b := w.heap.size) (o := 0) (v := .int .i64 (m : Int)) (by simp (maxDischargeDepth := 12) [go_sem, le1, lt1, *]); have c1 := keep1 hb9 (b := w.heap.size) (o := 1) (v := .int .i64 S) (by simp (maxDischargeDepth := 12) [go_sem, le1, lt1, *]); have c2 := keep1 hb9 (b := w.heap.size) (o := 2) (v := .int .i64 L) (by simp (maxDischargeDepth := 12) [go_sem, le1, lt1, *]); have hl9 := cell_lt c0; clear hb9 hv9 hg9))
  all_goals
    go_wp2_with fail
    go_ret
    have gg := unhide HG9
    have l9 := (unhide HV9).lt
  · refine ⟨⟨w9.heap.size + 1, g9, w9.heap.size, rfl, by omega, by omega, by omega, ?_⟩, ba (ba (unhide HB9) _) _⟩
    rw [unhide HH0]
    exact ⟨vb_new _ 85 _ _ (by simp), ((unhide HV9).bel (ba (Below.refl _ _) _)).bel (ba (Below.refl _ _) _), by rw [unhide HZ]; exact (vb_new _ 87 Z _ rfl).bel (ba (Below.refl _ _) _), by simp, by simp, by omega, by omega, by omega⟩
  · have vs : vb w9 (w.heap.size + 1 + 1) 87 Z := vb.bel (by (repeat (first | exact unhide VB | refine vb.drew ?_))) (unhide HBX)
    have ls := vs.lt
    have ng : g9 ≠ w.heap.size + 1 + 1 := by
      have := unhide HGS
      simp at this
      omega
    refine ⟨⟨w9.heap.size, g9, w.heap.size + 1 + 1, rfl, by omega, by omega, by omega, ?_⟩, ba (unhide HB9) _⟩
    rw [unhide HH0]
    exact ⟨vb_new _ 85 _ _ rfl, (unhide HV9).bel (ba (Below.refl _ _) _), by rw [unhide HZ]; exact vs.bel (ba (Below.refl _ _) _), by simp, by simp, ng, by omega, by omega⟩
  · have vs : vb w9 (w.heap.size + 1) 87 Z := vb.bel (by (repeat (first | exact unhide VA | refine vb.drew ?_))) (unhide HBX)
    have ls := vs.lt
    have ng : g9 ≠ w.heap.size + 1 := by
      have := unhide HGS
      simp at this
      omega
    refine ⟨⟨w9.heap.size, g9, w.heap.size + 1, rfl, by omega, by omega, by omega, ?_⟩, ba (unhide HB9) _⟩
    rw [unhide HH0]
    exact ⟨vb_new _ 85 _ _ rfl, (unhide HV9).bel (ba (Below.refl _ _) _), by rw [unhide HZ]; exact vs.bel (ba (Below.refl _ _) _), by simp, by simp, ng, by omega, by omega⟩
end Go.Proofs.Ytbgekppggakdoaa
