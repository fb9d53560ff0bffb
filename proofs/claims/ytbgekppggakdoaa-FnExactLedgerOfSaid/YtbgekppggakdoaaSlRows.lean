/-
  What the laws ask of rows of slots: how much there is, that one is made of another, that two are the same.
-/
import Derived.Test.YtbgekppggakdoaaJbRows
namespace Go.Proofs.Ytbgekppggakdoaa
open Go.ChangeShapes Go.WideShapes Go.ChangeAt Go.RowKit
set_option linter.unusedVariables false
set_option linter.unusedSimpArgs false

theorem slc_len' (s : Slt) : (slc s).length = 6 := rfl
theorem sl_sz_in (u : Option Addr) (n cu : Nat) (c : Int) (w : World) (hc : c ≤ 1048576) (hn : (n : Int) ≤ c) :
    Calls Try.prog 13 #[.slice u n cu, .int .i64 c] w fun e w' => e = .returned (.int .i64 (c - n)) ∧ w' = w := by
  have t : decide (c - (n : Int) < 0) = false := decide_eq_false (by omega)
  have n0 : (0 : Int) ≤ (n : Int) := Int.natCast_nonneg _
  go_enter Try.func13, Try.ntmps13
  go_wp2
  go_ret
  exact ⟨rfl, rfl⟩
theorem sl_sz_out (u : Option Addr) (n cu : Nat) (c : Int) (w : World) (hc0 : -1 ≤ c) (hc : c ≤ 1048576) (hn : c < (n : Int)) (hm : n ≤ 9223372036854775807) :
    Calls Try.prog 13 #[.slice u n cu, .int .i64 c] w fun e w' => e = .returned (.int .i64 (-1)) ∧ w' = w := by
  have t : decide (c - (n : Int) < 0) = true := decide_eq_true (by omega)
  have n0 : (0 : Int) ≤ (n : Int) := Int.natCast_nonneg _
  go_enter Try.func13, Try.ntmps13
  go_wp2
  go_ret
  exact ⟨rfl, rfl⟩
set_option maxHeartbeats 1000000 in
theorem sl_conv (a b c d e : Int) (f : Bool) (w : World) : Calls Try.prog 39 #[.agg #[.int .i64 a, .int .i64 b, .int .i64 c, .int .i64 d, .int .i64 e, .bool f]] w fun r w' => r = .returned (.agg #[.int .i64 a, .int .i64 b, .int .i64 c, .int .i64 d, .int .i64 e, .bool f]) ∧ Below w.heap.size w w' := by
  go_enter Try.func39, Try.ntmps39
  go_wp2
  exact bodyPost_ret (v := .agg #[.int .i64 a, .int .i64 b, .int .i64 c, .int .i64 d, .int .i64 e, .bool f]) (by simp [results, Try.results39, go_sem]) rfl ⟨rfl, by repeat (first | exact Below.refl _ _ | refine ba ?_ _)⟩
set_option maxHeartbeats 1000000 in
theorem slE_one (a b c d e : Int) (f : Bool) (w : World) : Calls Try.prog 41 #[.agg #[.int .i64 a, .int .i64 b, .int .i64 c, .int .i64 d, .int .i64 e, .bool f], .agg #[.int .i64 a, .int .i64 b, .int .i64 c, .int .i64 d, .int .i64 e, .bool f]] w fun r w' => r = .returned (.bool true) ∧ Below w.heap.size w w' := by
  have t5 : (f != f) = false := by simp
  have t5b : (!(f == f)) = false := by simp
  have t5c : (f == f) = true := by simp
  go_enter Try.func41, Try.ntmps41
  go_wp2
  go_ret
  exact ⟨rfl, ba (ba (Below.refl _ _) _) _⟩
def slz : Slt := ⟨0, 0, 0, 0, 0, false⟩
theorem sl_info : (Try.prog.info? 71).map (fun i => (i.zero, i.size, i.bytes)) = some (some (.agg #[.int .i64 0, .int .i64 0, .int .i64 0, .int .i64 0, .int .i64 0, .bool false]), 6, 48) := by kernel_rfl
theorem make_sl (n : Nat) (hn : n ≤ 1048576) (W : World) :
    (Instr.makeSlice 37 (.int .i64 (n : Int)) (.int .i64 (n : Int))).run Try.prog W = .ok (.slice (some ⟨W.heap.size, 0, none⟩) n n) (W.alloc (.cells (flatG slc (List.replicate n slz)).toArray 71)) := by
  obtain ⟨i, hx, h0, h1, h2⟩ := info_parts sl_info
  have := run_make (P := Try.prog) W 37 71 i _ Try.underlying37 hx h0 .i64 .i64 n n (by omega) (by omega) (by rw [h2]; omega) (by omega)
  rw [Int.toNat_natCast, h1, made_flat (c := slc) (by omega) slc_len' slz _ rfl] at this
  exact this
theorem SlG.six {w : World} {u : Option Addr} {p po : Nat} {P : List Slt} (h : SlG slc 6 w u p po P) {i : Nat} {x : Slt} (hi : P[i]? = some x) :
    u = some ⟨p, po, none⟩ ∧ p < w.heap.size ∧ w.cell? ⟨p, po + i * 6, none⟩ = some (.int .i64 x.jb) ∧ w.cell? ⟨p, po + i * 6 + 1, none⟩ = some (.int .i64 x.st) ∧ w.cell? ⟨p, po + i * 6 + 2, none⟩ = some (.int .i64 x.mc) ∧ w.cell? ⟨p, po + i * 6 + 3, none⟩ = some (.int .i64 x.fr) ∧ w.cell? ⟨p, po + i * 6 + 4, none⟩ = some (.int .i64 x.ti) ∧ w.cell? ⟨p, po + i * 6 + 5, none⟩ = some (.bool x.fs) := by
  obtain ⟨h1, h2, h3⟩ := h.at hi
  exact ⟨h1, h2, h3 0 _ rfl, h3 1 _ rfl, h3 2 _ rfl, h3 3 _ rfl, h3 4 _ rfl, h3 5 _ rfl⟩
set_option maxRecDepth 100000 in
set_option maxHeartbeats 4000000 in
theorem sl_to (u : Option Addr) (p po n cu : Nat) (P : List Slt) (w : World) (hl : P.length = n) (hn : n ≤ 1048576) (hu : SlG slc 6 w u p po P) :
    Calls Try.prog 15 #[.slice u n cu] w fun e w' => (∃ g, e = .returned (.slice (some ⟨g, 0, none⟩) n n) ∧ w.heap.size ≤ g ∧ vb w' g 71 (flatG slc P)) ∧ Below w.heap.size w w' := by
  have HU := hide (fun W (hW : Below w.heap.size w W) => hu.bel hW)
  have HL := hide hl
  clear hu hl
  have hmk := fun W => make_sl n hn W
  generalize hzz : flatG slc (List.replicate n slz) = Z at hmk
  have HZ := hide hzz
  clear hzz
  go_enter Try.func15, Try.ntmps15
  go_wp2_with fail
  have HG := hide (vb_new w 71 Z _ rfl)
  have HB0 := hide (ba (Below.refl w.heap.size w) (.cells Z.toArray 71))
  clear hmk
  go_loopw [4] (fun s W => ∃ i : Nat, s = .int .i64 (i : Int) ∧ i ≤ n ∧ vb W w.heap.size 71 (flatG slc (P.take i ++ List.replicate (n - i) slz)) ∧ Below w.heap.size w W) (fun s _ => n - (intOf s).toNat)
  case atStart =>
    refine ⟨0, rfl, Nat.zero_le _, ?_, unhide HB0⟩
    simp only [List.take_zero, List.nil_append, Nat.sub_zero]
    rw [unhide HZ]
    exact unhide HG
  case round =>
    obtain ⟨i, rfl, hi, hb, hw⟩ := hrel
    have HB := hide hb
    have HW := hide hw
    clear hb HG HB0
    by_cases h : i < n
    · have i1 : (i : Int) < (n : Int) := by omega
      have i0 : (0 : Int) ≤ (i : Int) := Int.natCast_nonneg _
      have iz : decide ((i : Int) < (n : Int)) = true := decide_eq_true i1
      obtain ⟨x, hx⟩ := get_some (unhide HL) h
      obtain ⟨rfl, pw, k0, k1, k2, k3, k4, k5⟩ := (unhide HU _ hw).six hx
      have HX := hide hx
      clear hx hw
      obtain ⟨a, b, c, d, e, f⟩ := x
      simp only [] at k0 k1 k2 k3 k4 k5
      go_wp2_with fail
      refine (sl_conv a b c d e f _).mono ?_
      rintro r W1 ⟨rfl, hb⟩
      have pb := (unhide HB).bel hb
      have hkl : (P.take i).length = i := by rw [List.length_take, unhide HL]; omega
      have hzi : (P.take i ++ List.replicate (n - i) slz)[i]? = some slz := by
        rw [List.getElem?_append_right (by rw [hkl]; omega), hkl, Nat.sub_self, List.getElem?_replicate, if_pos (by omega)]
      have m0 := pb.cell (flatG_at slc_len' hzi (j := 0) rfl)
      have m1 := pb.cell (flatG_at slc_len' hzi (j := 1) rfl)
      have m2 := pb.cell (flatG_at slc_len' hzi (j := 2) rfl)
      have m3 := pb.cell (flatG_at slc_len' hzi (j := 3) rfl)
      have m4 := pb.cell (flatG_at slc_len' hzi (j := 4) rfl)
      have m5 := pb.cell (flatG_at slc_len' hzi (j := 5) rfl)
      simp only [slz, Nat.add_zero] at m0 m1 m2 m3 m4 m5
      have fz : ∀ q, W1.frozen? ⟨w.heap.size, q, none⟩ = false := pb.frozen
      have PB := hide pb
      have HKL := hide hkl
      have HW1 := hide (bc (unhide HW) hb)
      clear hb pb hzi hkl k0 k1 k2 k3 k4 k5
      go_wp2_with fail
      go_roundw
      case rel =>
        refine ⟨i + 1, by simp, h, ?_, Below.setCell (Below.setCell (Below.setCell (Below.setCell (Below.setCell (Below.setCell (unhide HW1) (Nat.le_refl _) _) (Nat.le_refl _) _) (Nat.le_refl _) _) (Nat.le_refl _) _) (Nat.le_refl _) _) (Nat.le_refl _) _⟩
        have er := rep_set (P.take i) (n - i) slz ⟨a, b, c, d, e, f⟩ (by omega)
        rw [unhide HKL] at er
        rw [List.take_add_one, unhide HX, Option.toList_some, show n - (i + 1) = (n - i) - 1 by omega, ← er, flatG_set slc_len' _ _ _ (by rw [List.length_append, unhide HKL, List.length_replicate]; omega)]
        exact ((((((unhide PB).set (i * 6) (.int .i64 a)).set (i * 6 + 1) (.int .i64 b)).set (i * 6 + 2) (.int .i64 c)).set (i * 6 + 3) (.int .i64 d)).set (i * 6 + 4) (.int .i64 e)).set (i * 6 + 5) (.bool f)
      case measure => simp only [intOf]; omega
    · have i1 : ¬ (i : Int) < (n : Int) := by omega
      have iz : decide ((i : Int) < (n : Int)) = false := decide_eq_false i1
      have en : n = i := by omega
      subst en
      clear hw
      go_wp2_with fail
      go_ret
      refine ⟨⟨_, rfl, Nat.le_refl _, ?_⟩, unhide HW⟩
      have := unhide HB
      rwa [List.take_of_length_le (by rw [unhide HL]; exact Nat.le_refl _), Nat.sub_self, List.replicate_zero, List.append_nil] at this
set_option maxHeartbeats 2000000 in
theorem sl_same (u v : Option Addr) (p po q qo n cu cv : Nat) (P : List Slt) (w : World) (hl : P.length = n) (hn : n ≤ 1048576) (hu : SlG slc 6 w u p po P) (hv : SlG slc 6 w v q qo P) :
    Calls Try.prog 17 #[.slice u n cu, .slice v n cv] w fun e w' => e = .returned (.bool true) ∧ Below w.heap.size w w' := by
  have HU := hide (fun W (hW : Below w.heap.size w W) => hu.bel hW)
  have HV := hide (fun W (hW : Below w.heap.size w W) => hv.bel hW)
  have HL := hide hl
  clear hu hv hl
  go_enter Try.func17, Try.ntmps17
  go_wp2
  go_loopw [5] (fun s W => ∃ i : Nat, s = .int .i64 (i : Int) ∧ i ≤ n ∧ Below w.heap.size w W) (fun s _ => n - (intOf s).toNat)
  case atStart => exact ⟨0, rfl, Nat.zero_le _, Below.refl _ _⟩
  case round =>
    obtain ⟨i, rfl, hi, hw⟩ := hrel
    have HW := hide hw
    by_cases h : i < n
    · have i1 : (i : Int) < (n : Int) := by omega
      have i0 : (0 : Int) ≤ (i : Int) := Int.natCast_nonneg _
      have iz : decide ((i : Int) < (n : Int)) = true := decide_eq_true i1
      obtain ⟨x, hx⟩ := get_some (unhide HL) h
      obtain ⟨rfl, pw, k0, k1, k2, k3, k4, k5⟩ := (unhide HU _ hw).six hx
      obtain ⟨rfl, qw, l0, l1, l2, l3, l4, l5⟩ := (unhide HV _ hw).six hx
      clear hw hx
      obtain ⟨a, b, c, d, e, f⟩ := x
      simp only [] at k0 k1 k2 k3 k4 k5 l0 l1 l2 l3 l4 l5
      go_wp2_with fail
      go_region_held3 (fun wx => wx.cell? ⟨p, po + i * 6, none⟩ = some (.int .i64 a) ∧ wx.cell? ⟨p, po + i * 6 + 1, none⟩ = some (.int .i64 b) ∧ wx.cell? ⟨p, po + i * 6 + 2, none⟩ = some (.int .i64 c) ∧ wx.cell? ⟨p, po + i * 6 + 3, none⟩ = some (.int .i64 d) ∧ wx.cell? ⟨p, po + i * 6 + 4, none⟩ = some (.int .i64 e) ∧ wx.cell? ⟨p, po + i * 6 + 5, none⟩ = some (.bool f) ∧ wx.cell? ⟨q, qo + i * 6, none⟩ = some (.int .i64 a) ∧ wx.cell? ⟨q, qo + i * 6 + 1, none⟩ = some (.int .i64 b) ∧ wx.cell? ⟨q, qo + i * 6 + 2, none⟩ = some (.int .i64 c) ∧ wx.cell? ⟨q, qo + i * 6 + 3, none⟩ = some (.int .i64 d) ∧ wx.cell? ⟨q, qo + i * 6 + 4, none⟩ = some (.int .i64 e) ∧ wx.cell? ⟨q, qo + i * 6 + 5, none⟩ = some (.bool f))
        (simp (maxDischargeDepth := 12) [go_sem, le1, lt1, *])
        (first
        | (go_at_call 41; refine (slE_one a b c d e f _).mono ?_; rintro r w' ⟨rfl, hb⟩; have HB := hide hb; have y0 := keep1 hb (b := p) (o := _) (v := .int .i64 a) k0; have y1 := keep1 hb (b := p) (o := _) (v := .int .i64 b) k1; have y2 := keep1 hb (b := p) (o := _) (v := .int .i64 c) k2; have y3 := keep1 hb (b := p) (o := _) (v := .int .i64 d) k3; have y4 := keep1 hb (b := p) (o := _) (v := .int .i64 e) k4; have y5 := keep1 hb (b := p) (o := _) (v := .bool f) k5; have y6 := keep1 hb (b := q) (o := _) (v := .int .i64 a) l0; have y7 := keep1 hb (b := q) (o := _) (v := .int .i64 b) l1; have y8 := keep1 hb (b := q) (o := _) (v := .int .i64 c) l2; have y9 := keep1 hb (b := q) (o := _) (v := .int .i64 d) l3; have y10 := keep1 hb (b := q) (o := _) (v := .int .i64 e) l4; have y11 := keep1 hb (b := q) (o := _) (v := .bool f) l5; clear hb))
      all_goals
        go_wp2_with fail
        go_roundw
        case rel => exact ⟨i + 1, by simp, h, by repeat (first | exact unhide HW | refine bc ?_ (unhide HB) | refine Below.drew ?_)⟩
        case measure => simp only [intOf]; omega
    · have i1 : ¬ (i : Int) < (n : Int) := by omega
      have iz : decide ((i : Int) < (n : Int)) = false := decide_eq_false i1
      go_wp2_with fail
      go_ret
      exact ⟨rfl, unhide HW⟩
end Go.Proofs.Ytbgekppggakdoaa
