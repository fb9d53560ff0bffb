/-
  What the laws ask of rows of features: that one is made of another, how much there is of it.
-/
import Derived.Test.YtkkmikgeppkhiaaCkM
namespace Go.Proofs.Ytkkmikgeppkhiaa
open Go.ChangeShapes Go.WideShapes Go.ChangeAt Go.RowKit
set_option linter.unusedVariables false
set_option linter.unusedSimpArgs false

theorem bx_conv (x0 y0 z0 x1 y1 z1 : Int) (w : World) : Calls Try.prog 51 #[.agg #[.int .i64 x0, .int .i64 y0, .int .i64 z0, .int .i64 x1, .int .i64 y1, .int .i64 z1]] w fun e w' => e = .returned (.agg #[.int .i64 x0, .int .i64 y0, .int .i64 z0, .int .i64 x1, .int .i64 y1, .int .i64 z1]) ∧ Below w.heap.size w w' := by
  go_enter Try.func51, Try.ntmps51
  go_wp2
  exact bodyPost_ret (v := .agg #[.int .i64 x0, .int .i64 y0, .int .i64 z0, .int .i64 x1, .int .i64 y1, .int .i64 z1]) (by simp [results, Try.results51, go_sem]) rfl ⟨rfl, by repeat (first | exact Below.refl _ _ | refine ba ?_ _)⟩
set_option maxRecDepth 100000 in
set_option maxHeartbeats 4000000 in
theorem ft_conv (s o v : ByteArray) (k d x0 y0 z0 x1 y1 z1 ct dx dy dz : Int) (w : World) : Calls Try.prog 29 #[.agg #[.string s, .string o, .string v, .int .i64 k, .int .i64 d, .int .i64 x0, .int .i64 y0, .int .i64 z0, .int .i64 x1, .int .i64 y1, .int .i64 z1, .int .i64 ct, .int .i64 dx, .int .i64 dy, .int .i64 dz]] w fun e w' => e = .returned (.agg #[.string s, .string o, .string v, .int .i64 k, .int .i64 d, .int .i64 x0, .int .i64 y0, .int .i64 z0, .int .i64 x1, .int .i64 y1, .int .i64 z1, .int .i64 ct, .int .i64 dx, .int .i64 dy, .int .i64 dz]) ∧ Below w.heap.size w w' := by
  have HB := hide (fun W => bx_conv x0 y0 z0 x1 y1 z1 W)
  have V0 := hide (((vb_new w 48 (ftc ⟨s, o, v, k, d, x0, y0, z0, x1, y1, z1, ct, dx, dy, dz⟩) _ rfl).bel (ba (Below.refl _ _) (.cells (ftc ft0).toArray 57))).bel (ba (Below.refl _ _) (.cells (ftc ⟨s, o, v, k, d, 0, 0, 0, 0, 0, 0, 0, 0, 0, 0⟩).toArray 57)))
  have V1 := hide ((vb_new (w.alloc (.cells (ftc ⟨s, o, v, k, d, x0, y0, z0, x1, y1, z1, ct, dx, dy, dz⟩).toArray 48)) 57 (ftc ft0) _ rfl).bel (ba (Below.refl _ _) (.cells (ftc ⟨s, o, v, k, d, 0, 0, 0, 0, 0, 0, 0, 0, 0, 0⟩).toArray 57)))
  have V2 := hide (vb_new ((w.alloc (.cells (ftc ⟨s, o, v, k, d, x0, y0, z0, x1, y1, z1, ct, dx, dy, dz⟩).toArray 48)).alloc (.cells (ftc ft0).toArray 57)) 57 (ftc ⟨s, o, v, k, d, 0, 0, 0, 0, 0, 0, 0, 0, 0, 0⟩) _ rfl)
  have HB0 := hide (ba (ba (ba (Below.refl w.heap.size w) (.cells (ftc ⟨s, o, v, k, d, x0, y0, z0, x1, y1, z1, ct, dx, dy, dz⟩).toArray 48)) (.cells (ftc ft0).toArray 57)) (.cells (ftc ⟨s, o, v, k, d, 0, 0, 0, 0, 0, 0, 0, 0, 0, 0⟩).toArray 57))
  simp only [World.size_alloc] at V1 V2
  go_enter Try.func29, Try.ntmps29
  go_wp2_with fail
  refine (unhide HB _).mono ?_
  rintro e W1 ⟨rfl, hb⟩
  have a11 := ((unhide V0).bel hb).cell (m := 11) rfl
  have a12 := ((unhide V0).bel hb).cell (m := 12) rfl
  have a13 := ((unhide V0).bel hb).cell (m := 13) rfl
  have a14 := ((unhide V0).bel hb).cell (m := 14) rfl
  have e0 := ((unhide V2).bel hb).cell (m := 0) rfl
  have e1 := ((unhide V2).bel hb).cell (m := 1) rfl
  have e2 := ((unhide V2).bel hb).cell (m := 2) rfl
  have e3 := ((unhide V2).bel hb).cell (m := 3) rfl
  have e4 := ((unhide V2).bel hb).cell (m := 4) rfl
  have e5 := ((unhide V2).bel hb).cell (m := 5) rfl
  have e6 := ((unhide V2).bel hb).cell (m := 6) rfl
  have e7 := ((unhide V2).bel hb).cell (m := 7) rfl
  have e8 := ((unhide V2).bel hb).cell (m := 8) rfl
  have e9 := ((unhide V2).bel hb).cell (m := 9) rfl
  have e10 := ((unhide V2).bel hb).cell (m := 10) rfl
  have e11 := ((unhide V2).bel hb).cell (m := 11) rfl
  have e12 := ((unhide V2).bel hb).cell (m := 12) rfl
  have e13 := ((unhide V2).bel hb).cell (m := 13) rfl
  have e14 := ((unhide V2).bel hb).cell (m := 14) rfl
  have r0 := ((unhide V1).bel hb).cell (m := 0) rfl
  have r1 := ((unhide V1).bel hb).cell (m := 1) rfl
  have r2 := ((unhide V1).bel hb).cell (m := 2) rfl
  have r3 := ((unhide V1).bel hb).cell (m := 3) rfl
  have r4 := ((unhide V1).bel hb).cell (m := 4) rfl
  have r5 := ((unhide V1).bel hb).cell (m := 5) rfl
  have r6 := ((unhide V1).bel hb).cell (m := 6) rfl
  have r7 := ((unhide V1).bel hb).cell (m := 7) rfl
  have r8 := ((unhide V1).bel hb).cell (m := 8) rfl
  have r9 := ((unhide V1).bel hb).cell (m := 9) rfl
  have r10 := ((unhide V1).bel hb).cell (m := 10) rfl
  have r11 := ((unhide V1).bel hb).cell (m := 11) rfl
  have r12 := ((unhide V1).bel hb).cell (m := 12) rfl
  have r13 := ((unhide V1).bel hb).cell (m := 13) rfl
  have r14 := ((unhide V1).bel hb).cell (m := 14) rfl
  simp only [ft0] at a11 a12 a13 a14 e0 e1 e2 e3 e4 e5 e6 e7 e8 e9 e10 e11 e12 e13 e14 r0 r1 r2 r3 r4 r5 r6 r7 r8 r9 r10 r11 r12 r13 r14
  have fz2 : ∀ q, W1.frozen? ⟨w.heap.size + 1 + 1, q, none⟩ = false := ((unhide V2).bel hb).frozen
  have fz1 : ∀ q, W1.frozen? ⟨w.heap.size + 1, q, none⟩ = false := ((unhide V1).bel hb).frozen
  have HB1 := hide (bc (unhide HB0) hb)
  have U1 := hide ((unhide V1).bel hb)
  clear hb
  go_wp2_with fail
  have h0 := (vb.ne (g' := w.heap.size + 1 + 1) (o := 14) (x := .int .i64 dz) (vb.ne (g' := w.heap.size + 1 + 1) (o := 13) (x := .int .i64 dy) (vb.ne (g' := w.heap.size + 1 + 1) (o := 12) (x := .int .i64 dx) (vb.ne (g' := w.heap.size + 1 + 1) (o := 11) (x := .int .i64 ct) (vb.ne (g' := w.heap.size + 1 + 1) (o := 10) (x := .int .i64 z1) (vb.ne (g' := w.heap.size + 1 + 1) (o := 9) (x := .int .i64 y1) (vb.ne (g' := w.heap.size + 1 + 1) (o := 8) (x := .int .i64 x1) (vb.ne (g' := w.heap.size + 1 + 1) (o := 7) (x := .int .i64 z0) (vb.ne (g' := w.heap.size + 1 + 1) (o := 6) (x := .int .i64 y0) (vb.ne (g' := w.heap.size + 1 + 1) (o := 5) (x := .int .i64 x0) (unhide U1) (by omega)) (by omega)) (by omega)) (by omega)) (by omega)) (by omega)) (by omega)) (by omega)) (by omega)) (by omega))
  have h15 := (((((((((((((((h0.set 0 (.string s)).set 1 (.string o)).set 2 (.string v)).set 3 (.int .i64 k)).set 4 (.int .i64 d)).set 5 (.int .i64 x0)).set 6 (.int .i64 y0)).set 7 (.int .i64 z0)).set 8 (.int .i64 x1)).set 9 (.int .i64 y1)).set 10 (.int .i64 z1)).set 11 (.int .i64 ct)).set 12 (.int .i64 dx)).set 13 (.int .i64 dy)).set 14 (.int .i64 dz))
  simp only [ftc, ft0, List.set_cons_zero, List.set_cons_succ] at h15
  have z0' := h15.cell (m := 0) rfl
  have z1' := h15.cell (m := 1) rfl
  have z2' := h15.cell (m := 2) rfl
  have z3' := h15.cell (m := 3) rfl
  have z4' := h15.cell (m := 4) rfl
  have z5' := h15.cell (m := 5) rfl
  have z6' := h15.cell (m := 6) rfl
  have z7' := h15.cell (m := 7) rfl
  have z8' := h15.cell (m := 8) rfl
  have z9' := h15.cell (m := 9) rfl
  have z10' := h15.cell (m := 10) rfl
  have z11' := h15.cell (m := 11) rfl
  have z12' := h15.cell (m := 12) rfl
  have z13' := h15.cell (m := 13) rfl
  have z14' := h15.cell (m := 14) rfl
  have hA : w.heap.size ≤ w.heap.size + 1 + 1 := by omega
  have hR : w.heap.size ≤ w.heap.size + 1 := by omega
  have q1 := hide (Below.setCell (unhide HB1) (p := ⟨w.heap.size + 1 + 1, 5, none⟩) hA (.int .i64 x0))
  have q2 := hide (Below.setCell (unhide q1) (p := ⟨w.heap.size + 1 + 1, 6, none⟩) hA (.int .i64 y0))
  have q3 := hide (Below.setCell (unhide q2) (p := ⟨w.heap.size + 1 + 1, 7, none⟩) hA (.int .i64 z0))
  have q4 := hide (Below.setCell (unhide q3) (p := ⟨w.heap.size + 1 + 1, 8, none⟩) hA (.int .i64 x1))
  have q5 := hide (Below.setCell (unhide q4) (p := ⟨w.heap.size + 1 + 1, 9, none⟩) hA (.int .i64 y1))
  have q6 := hide (Below.setCell (unhide q5) (p := ⟨w.heap.size + 1 + 1, 10, none⟩) hA (.int .i64 z1))
  have q7 := hide (Below.setCell (unhide q6) (p := ⟨w.heap.size + 1 + 1, 11, none⟩) hA (.int .i64 ct))
  have q8 := hide (Below.setCell (unhide q7) (p := ⟨w.heap.size + 1 + 1, 12, none⟩) hA (.int .i64 dx))
  have q9 := hide (Below.setCell (unhide q8) (p := ⟨w.heap.size + 1 + 1, 13, none⟩) hA (.int .i64 dy))
  have q10 := hide (Below.setCell (unhide q9) (p := ⟨w.heap.size + 1 + 1, 14, none⟩) hA (.int .i64 dz))
  have q11 := hide (Below.setCell (unhide q10) (p := ⟨w.heap.size + 1, 0, none⟩) hR (.string s))
  have q12 := hide (Below.setCell (unhide q11) (p := ⟨w.heap.size + 1, 1, none⟩) hR (.string o))
  have q13 := hide (Below.setCell (unhide q12) (p := ⟨w.heap.size + 1, 2, none⟩) hR (.string v))
  have q14 := hide (Below.setCell (unhide q13) (p := ⟨w.heap.size + 1, 3, none⟩) hR (.int .i64 k))
  have q15 := hide (Below.setCell (unhide q14) (p := ⟨w.heap.size + 1, 4, none⟩) hR (.int .i64 d))
  have q16 := hide (Below.setCell (unhide q15) (p := ⟨w.heap.size + 1, 5, none⟩) hR (.int .i64 x0))
  have q17 := hide (Below.setCell (unhide q16) (p := ⟨w.heap.size + 1, 6, none⟩) hR (.int .i64 y0))
  have q18 := hide (Below.setCell (unhide q17) (p := ⟨w.heap.size + 1, 7, none⟩) hR (.int .i64 z0))
  have q19 := hide (Below.setCell (unhide q18) (p := ⟨w.heap.size + 1, 8, none⟩) hR (.int .i64 x1))
  have q20 := hide (Below.setCell (unhide q19) (p := ⟨w.heap.size + 1, 9, none⟩) hR (.int .i64 y1))
  have q21 := hide (Below.setCell (unhide q20) (p := ⟨w.heap.size + 1, 10, none⟩) hR (.int .i64 z1))
  have q22 := hide (Below.setCell (unhide q21) (p := ⟨w.heap.size + 1, 11, none⟩) hR (.int .i64 ct))
  have q23 := hide (Below.setCell (unhide q22) (p := ⟨w.heap.size + 1, 12, none⟩) hR (.int .i64 dx))
  have q24 := hide (Below.setCell (unhide q23) (p := ⟨w.heap.size + 1, 13, none⟩) hR (.int .i64 dy))
  have q25 := hide (Below.setCell (unhide q24) (p := ⟨w.heap.size + 1, 14, none⟩) hR (.int .i64 dz))
  exact bodyPost_ret (v := .agg #[.string s, .string o, .string v, .int .i64 k, .int .i64 d, .int .i64 x0, .int .i64 y0, .int .i64 z0, .int .i64 x1, .int .i64 y1, .int .i64 z1, .int .i64 ct, .int .i64 dx, .int .i64 dy, .int .i64 dz]) (by simp [results, Try.results29, go_sem, z0', z1', z2', z3', z4', z5', z6', z7', z8', z9', z10', z11', z12', z13', z14']; done) rfl ⟨rfl, (unhide q25)⟩
def fillF (fs : List Ft) (i : Nat) : List Ft := fs.take i ++ List.replicate (fs.length - i) ft0
theorem fillF_len (fs : List Ft) (i : Nat) (h : i ≤ fs.length) : (fillF fs i).length = fs.length := by simp [fillF]; omega
theorem fillF_at (fs : List Ft) (i : Nat) (h : i < fs.length) : (fillF fs i)[i]? = some ft0 := by
  unfold fillF
  rw [List.getElem?_append_right (by simp; omega), List.getElem?_replicate]
  simp
  omega
theorem fillF_step (fs : List Ft) (i : Nat) (f : Ft) (h : fs[i]? = some f) : (fillF fs i).set i f = fillF fs (i + 1) := by
  have hi : i < fs.length := (List.getElem?_eq_some_iff.1 h).1
  unfold fillF
  have hl : (fs.take i).length = i := by simp; omega
  rw [List.set_append, if_neg (by omega), hl, Nat.sub_self, List.take_add_one, h]
  have e : fs.length - i = (fs.length - (i + 1)) + 1 := by omega
  rw [e, List.replicate_succ]
  simp
theorem fillF_zero (fs : List Ft) : fillF fs 0 = List.replicate fs.length ft0 := by simp [fillF]
theorem fillF_all (fs : List Ft) : fillF fs fs.length = fs := by simp [fillF]
theorem made_ft (m : Nat) : madeCells (ftv ft0).cells (m * 15) = (flatG ftc (List.replicate m ft0)).toArray := by
  apply Array.ext
  · simp [madeCells, flatG_len ftc_len]
  · intro i h1 h2
    have hi : i < m * 15 := by simpa [madeCells] using h1
    have hd : i / 15 < m := by omega
    have hr : (List.replicate m ft0)[i / 15]? = some ft0 := by simp [List.getElem?_replicate, hd]
    have hlt : i % 15 < (ftc ft0).length := by rw [ftc_len]; omega
    have hf := flatG_at ftc_len hr (j := i % 15) (v := (ftc ft0)[i % 15]) (List.getElem?_eq_getElem hlt)
    rw [show i / 15 * 15 + i % 15 = i by omega] at hf
    have hc : (ftv ft0).cells = (ftc ft0).toArray := rfl
    have hx : (flatG ftc (List.replicate m ft0))[i]? = some (flatG ftc (List.replicate m ft0))[i] := List.getElem?_eq_getElem _
    simp only [madeCells, Array.getElem_map, Array.getElem_range, hc, List.getElem_toArray]
    show ((ftc ft0).toArray)[i % 15]! = _
    rw [hx] at hf
    have := Option.some.inj hf
    rw [this, getElem!_pos (ftc ft0).toArray (i % 15) (by simpa using hlt)]
    simp
theorem ft_info : (Try.prog.info? 57).map (fun i => (i.zero, i.size, i.bytes)) = some (some (ftv ft0), 15, 144) := by kernel_rfl
theorem make_ft (n : Nat) (hn : n ≤ 1048576) (W : World) :
    (Instr.makeSlice 27 (.int .i64 (n : Int)) (.int .i64 (n : Int))).run Try.prog W = .ok (.slice (some ⟨W.heap.size, 0, none⟩) n n) (W.alloc (.cells (flatG ftc (List.replicate n ft0)).toArray 57)) := by
  obtain ⟨i, hx, h0, h1, h2⟩ := info_parts ft_info
  have := run_make (P := Try.prog) W 27 57 i (ftv ft0) Try.underlying27 hx h0 .i64 .i64 n n (by omega) (by omega) (by rw [h2]; omega) (by omega)
  rw [Int.toNat_natCast, h1, made_ft] at this
  exact this
set_option maxRecDepth 100000 in
set_option maxHeartbeats 4000000 in
theorem ft_to (u : Option Addr) (p po n cu : Nat) (fs : List Ft) (w : World) (hl : fs.length = n) (hn : n ≤ 1048576) (hu : SlG ftc 15 w u p po fs) :
    Calls Try.prog 8 #[.slice u n cu] w fun e w' => (∃ g, e = .returned (.slice (some ⟨g, 0, none⟩) n n) ∧ w.heap.size ≤ g ∧ vb w' g 57 (flatG ftc fs)) ∧ Below w.heap.size w w' := by
  have HU := hide hu
  have HL := hide hl
  clear hu hl
  have hmk := fun W => make_ft n hn W
  generalize hzz : flatG ftc (List.replicate n ft0) = Z at hmk
  have HZ := hide hzz
  clear hzz
  go_enter Try.func8, Try.ntmps8
  go_wp2_with fail
  have HG := hide (vb_new w 57 Z _ rfl)
  have HB0 := hide (ba (Below.refl w.heap.size w) (.cells Z.toArray 57))
  clear hmk
  go_loopw [4] (fun s W => ∃ i : Nat, s = .int .i64 (i : Int) ∧ i ≤ n ∧ vb W w.heap.size 57 (flatG ftc (fillF fs i)) ∧ Below w.heap.size w W) (fun s _ => n - (intOf s).toNat)
  case atStart =>
    refine ⟨0, rfl, Nat.zero_le _, ?_, unhide HB0⟩
    rw [fillF_zero, unhide HL, unhide HZ]
    exact unhide HG
  case round =>
    obtain ⟨i, rfl, hi, hb, hw⟩ := hrel
    have HB := hide hb
    have HW := hide hw
    clear hb hw HG HB0
    by_cases h : i < n
    · have i1 : (i : Int) < (n : Int) := by omega
      have i0 : (0 : Int) ≤ (i : Int) := Int.natCast_nonneg _
      have iz : decide ((i : Int) < (n : Int)) = true := decide_eq_true i1
      obtain ⟨⟨s, o, v, k, d, x0, y0, z0, x1, y1, z1, ct, dx, dy, dz⟩, hx⟩ := get_some (unhide HL) h
      obtain ⟨rfl, k0, k1, k2, k3, k4, k5, k6, k7, k8, k9, k10, k11, k12, k13, k14⟩ := ((unhide HU).bel (unhide HW)).at15 hx
      simp only at k0 k1 k2 k3 k4 k5 k6 k7 k8 k9 k10 k11 k12 k13 k14
      have HX := hide hx
      clear hx
      go_wp2_with fail
      refine (ft_conv _ _ _ _ _ _ _ _ _ _ _ _ _ _ _ _).mono ?_
      rintro e W1 ⟨rfl, hb⟩
      have pb := (unhide HB).bel hb
      have m0 := pb.cell (flatG_at ftc_len (fillF_at fs i (by rw [unhide HL]; exact h)) (j := 0) rfl)
      have m1 := pb.cell (flatG_at ftc_len (fillF_at fs i (by rw [unhide HL]; exact h)) (j := 1) rfl)
      have m2 := pb.cell (flatG_at ftc_len (fillF_at fs i (by rw [unhide HL]; exact h)) (j := 2) rfl)
      have m3 := pb.cell (flatG_at ftc_len (fillF_at fs i (by rw [unhide HL]; exact h)) (j := 3) rfl)
      have m4 := pb.cell (flatG_at ftc_len (fillF_at fs i (by rw [unhide HL]; exact h)) (j := 4) rfl)
      have m5 := pb.cell (flatG_at ftc_len (fillF_at fs i (by rw [unhide HL]; exact h)) (j := 5) rfl)
      have m6 := pb.cell (flatG_at ftc_len (fillF_at fs i (by rw [unhide HL]; exact h)) (j := 6) rfl)
      have m7 := pb.cell (flatG_at ftc_len (fillF_at fs i (by rw [unhide HL]; exact h)) (j := 7) rfl)
      have m8 := pb.cell (flatG_at ftc_len (fillF_at fs i (by rw [unhide HL]; exact h)) (j := 8) rfl)
      have m9 := pb.cell (flatG_at ftc_len (fillF_at fs i (by rw [unhide HL]; exact h)) (j := 9) rfl)
      have m10 := pb.cell (flatG_at ftc_len (fillF_at fs i (by rw [unhide HL]; exact h)) (j := 10) rfl)
      have m11 := pb.cell (flatG_at ftc_len (fillF_at fs i (by rw [unhide HL]; exact h)) (j := 11) rfl)
      have m12 := pb.cell (flatG_at ftc_len (fillF_at fs i (by rw [unhide HL]; exact h)) (j := 12) rfl)
      have m13 := pb.cell (flatG_at ftc_len (fillF_at fs i (by rw [unhide HL]; exact h)) (j := 13) rfl)
      have m14 := pb.cell (flatG_at ftc_len (fillF_at fs i (by rw [unhide HL]; exact h)) (j := 14) rfl)
      simp only [ft0, Nat.add_zero] at m0 m1 m2 m3 m4 m5 m6 m7 m8 m9 m10 m11 m12 m13 m14
      have fz : ∀ q, W1.frozen? ⟨w.heap.size, q, none⟩ = false := pb.frozen
      have PB := hide pb
      have HW1 := hide (bc (unhide HW) hb)
      clear hb pb k0 k1 k2 k3 k4 k5 k6 k7 k8 k9 k10 k11 k12 k13 k14
      go_wp2_with fail
      go_roundw
      case rel =>
        refine ⟨i + 1, by simp, h, ?_, ?_⟩
        · rw [← fillF_step fs i _ (unhide HX), flatG_set ftc_len _ _ _ (by rw [fillF_len _ _ (by rw [unhide HL]; omega), unhide HL]; exact h)]
          exact ((((((((((((((((unhide PB).set (i * 15) (.string s)).set (i * 15 + 1) (.string o)).set (i * 15 + 2) (.string v)).set (i * 15 + 3) (.int .i64 k)).set (i * 15 + 4) (.int .i64 d)).set (i * 15 + 5) (.int .i64 x0)).set (i * 15 + 6) (.int .i64 y0)).set (i * 15 + 7) (.int .i64 z0)).set (i * 15 + 8) (.int .i64 x1)).set (i * 15 + 9) (.int .i64 y1)).set (i * 15 + 10) (.int .i64 z1)).set (i * 15 + 11) (.int .i64 ct)).set (i * 15 + 12) (.int .i64 dx)).set (i * 15 + 13) (.int .i64 dy)).set (i * 15 + 14) (.int .i64 dz))
        · exact (Below.setCell (Below.setCell (Below.setCell (Below.setCell (Below.setCell (Below.setCell (Below.setCell (Below.setCell (Below.setCell (Below.setCell (Below.setCell (Below.setCell (Below.setCell (Below.setCell (Below.setCell (unhide HW1) (Nat.le_refl _) _) (Nat.le_refl _) _) (Nat.le_refl _) _) (Nat.le_refl _) _) (Nat.le_refl _) _) (Nat.le_refl _) _) (Nat.le_refl _) _) (Nat.le_refl _) _) (Nat.le_refl _) _) (Nat.le_refl _) _) (Nat.le_refl _) _) (Nat.le_refl _) _) (Nat.le_refl _) _) (Nat.le_refl _) _) (Nat.le_refl _) _)
      case measure => simp only [intOf]; omega
    · have i1 : ¬ (i : Int) < (n : Int) := by omega
      have iz : decide ((i : Int) < (n : Int)) = false := decide_eq_false i1
      have en : i = n := by omega
      subst en
      go_wp2_with fail
      go_ret
      refine ⟨⟨_, rfl, Nat.le_refl _, ?_⟩, unhide HW⟩
      have h1 := unhide HB
      rw [← unhide HL, fillF_all] at h1
      exact h1
end Go.Proofs.Ytkkmikgeppkhiaa
