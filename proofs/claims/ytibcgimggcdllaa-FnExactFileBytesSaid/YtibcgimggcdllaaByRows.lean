/-
  What the laws ask of rows of bytes: copies, that two are the same.
-/
import Derived.Test.YtibcgimggcdllaaFiSum
import Derived.Test.YtibcgimggcdllaaMakes
import Derived.Test.YtibcgimggcdllaaItRows
namespace Go.Proofs.Ytibcgimggcdllaa
open Go.ChangeShapes Go.WideShapes Go.ChangeAt Go.RowKit
set_option linter.unusedVariables false
set_option linter.unusedSimpArgs false

/-- bytes as cells -/
def byL (L : List Int) : List Value := L.map (Value.int .u8)
theorem byL_len (L : List Int) : (byL L).length = L.length := by simp [byL]
theorem byL_at {L : List Int} {i : Nat} {x : Int} (h : L[i]? = some x) : (byL L)[i]? = some (.int .u8 x) := by simp [byL, h]
theorem byL_flat (L : List Int) : flatG byc L = byL L := by
  induction L with
  | nil => rfl
  | cons x L ih => simp only [flatG, ih]; rfl
theorem vb.byt {w : World} {g t : Nat} {L : List Int} (h : vb w g t (byL L)) : SlG byc 1 w (some ⟨g, 0, none⟩) g 0 L := by
  rw [← byL_flat] at h
  exact h.slG byc_len
theorem make_by (n : Nat) (hn : n ≤ 1048576) (W : World) :
    (Instr.makeSlice 22 (.int .i64 (n : Int)) (.int .i64 (n : Int))).run Try.prog W = .ok (.slice (some ⟨W.heap.size, 0, none⟩) n n) (W.alloc (.cells (byL (zeros n)).toArray 5)) := by
  have hi : (Try.prog.info? 5).map (fun i => (i.zero, i.size, i.bytes)) = some (some (.int .u8 0), 1, 1) := by kernel_rfl
  obtain ⟨i, hx, h0, h1, h2⟩ := info_parts hi
  have := run_make (P := Try.prog) W 22 5 i (.int .u8 0) Try.underlying22 hx h0 .i64 .i64 n n (by omega) (by omega) (by rw [h2]; omega) (by omega)
  have e : madeCells (Value.cells (.int .u8 0)) (n * 1) = (byL (zeros n)).toArray := by
    rw [Nat.mul_one]
    show madeCells #[.int .u8 0] n = _
    apply Array.ext
    · simp [madeCells, zeros, byL]
    · intro i h1 h2
      have hm : i % 1 = 0 := Nat.mod_one _
      simp [madeCells, zeros, byL, hm]
  rw [Int.toNat_natCast, h1, e] at this
  exact this
set_option maxHeartbeats 1000000 in
theorem by_to (u : Option Addr) (p po n cu : Nat) (L : List Int) (w : World) (hl : L.length = n) (hn : n ≤ 1048576) (hu : SlG byc 1 w u p po L) :
    Calls Try.prog 6 #[.slice u n cu] w fun e w' => (∃ g, e = .returned (.slice (some ⟨g, 0, none⟩) n n) ∧ w.heap.size ≤ g ∧ vb w' g 5 (byL L)) ∧ Below w.heap.size w w' := by
  have HU := hide (fun W (hW : Below w.heap.size w W) => hu.bel hW)
  have HL := hide hl
  clear hu hl
  have hmk := fun W => make_by n hn W
  generalize hzz : byL (zeros n) = Z at hmk
  have HV := hide (vb_new w 5 Z w.heap.size rfl)
  have HZ := hide hzz
  have HB0 := hide (ba (Below.refl w.heap.size w) (.cells Z.toArray 5))
  clear hzz
  go_enter Try.func6, Try.ntmps6
  go_wp2
  go_loopw [4] (fun s W => ∃ i : Nat, s = .int .i64 (i : Int) ∧ i ≤ n ∧ vb W w.heap.size 5 (byL (L.take i ++ zeros (L.length - i))) ∧ Below w.heap.size w W) (fun s _ => n - (intOf s).toNat)
  case atStart =>
    refine ⟨0, rfl, Nat.zero_le _, ?_, unhide HB0⟩
    have h1 := unhide HV
    have e : byL (L.take 0 ++ zeros (L.length - 0)) = Z := by rw [← unhide HZ, unhide HL]; simp
    rw [e]
    exact h1
  case round =>
    obtain ⟨i, rfl, hi, hv, hw⟩ := hrel
    have HVV := hide hv
    have HW := hide hw
    by_cases h : i < n
    · have i1 : (i : Int) < (n : Int) := by omega
      have i0 : (0 : Int) ≤ (i : Int) := Int.natCast_nonneg _
      have iz : decide ((i : Int) < (n : Int)) = true := decide_eq_true i1
      obtain ⟨x, hx⟩ := get_some (unhide HL) h
      obtain ⟨rfl, hp, k0⟩ := (unhide HU _ hw).byte hx
      have hil : i < L.length := by rw [unhide HL]; exact h
      have c0 := hv.cell (byL_at (fill_at L i 0 hil))
      rw [Nat.add_zero] at c0
      have fz : ∀ o, wr.frozen? ⟨w.heap.size, o, none⟩ = false := hv.frozen
      have HX := hide hx
      clear hx hv hw hil
      go_wp2_with fail
      go_roundw
      case rel =>
        refine ⟨i + 1, by simp, h, ?_, (unhide HW).setCell (p := ⟨w.heap.size, i, none⟩) (Nat.le_refl _) _⟩
        have h1 := (unhide HVV).set i (.int .u8 x)
        have e1 : (byL (L.take i ++ zeros (L.length - i))).set i (.int .u8 x) = byL (L.take (i + 1) ++ zeros (L.length - (i + 1))) := by
          rw [← fill_step L i (by rw [unhide HL]; exact h) x (unhide HX)]
          simp [byL, List.map_set]
        rw [e1] at h1
        exact h1
      case measure => simp only [intOf]; omega
    · have i1 : ¬ (i : Int) < (n : Int) := by omega
      have iz : decide ((i : Int) < (n : Int)) = false := decide_eq_false i1
      have en : i = n := by omega
      subst en
      clear hv hw
      go_wp2_with fail
      go_ret
      refine ⟨⟨_, rfl, Nat.le_refl _, ?_⟩, unhide HW⟩
      have h1 := unhide HVV
      rw [List.take_of_length_le (by rw [unhide HL]; omega), unhide HL, Nat.sub_self] at h1
      simpa [zeros] using h1
set_option maxHeartbeats 1000000 in
theorem by_same (u v : Option Addr) (p po q qo n cu cv : Nat) (L : List Int) (w : World) (hl : L.length = n) (hn : n ≤ 1048576)
    (hu : SlG byc 1 w u p po L) (hv : SlG byc 1 w v q qo L) :
    Calls Try.prog 8 #[.slice u n cu, .slice v n cv] w fun e w' => e = .returned (.bool true) ∧ Below w.heap.size w w' := by
  have HU := hide (fun W (hW : Below w.heap.size w W) => hu.bel hW)
  have HV := hide (fun W (hW : Below w.heap.size w W) => hv.bel hW)
  have HL := hide hl
  clear hu hv hl
  go_enter Try.func8, Try.ntmps8
  go_wp2
  go_loopw [5] (fun s W => ∃ i : Nat, s = .int .i64 (i : Int) ∧ i ≤ n ∧ Below w.heap.size w W) (fun s _ => n - (intOf s).toNat)
  case atStart => exact ⟨0, rfl, Nat.zero_le _, Below.refl _ _⟩
  case round =>
    obtain ⟨i, rfl, hi, hw⟩ := hrel
    have HW := hide hw
    by_cases h : i < n
    · have i1 : (i : Int) < (n : Int) := by omega
      have i0 : (0 : Int) ≤ (i : Int) := Int.natCast_nonneg _
      have iz : decide ((i : Int) < (n : Int)) = true := decide_eq_true i1
      obtain ⟨x, hx⟩ := get_some (unhide HL) h
      obtain ⟨rfl, pw, k0⟩ := (unhide HU _ hw).byte hx
      obtain ⟨rfl, qw, l0⟩ := (unhide HV _ hw).byte hx
      have xx : (x != x) = false := by simp
      clear pw qw hx hw
      go_wp2_with fail
      go_quiet (fail)
      go_wp2_with fail
      go_roundw
      case rel => exact ⟨i + 1, by simp, h, by repeat (first | exact unhide HW | refine bel_dn' ?_ _ | refine Below.drew ?_)⟩
      case measure => simp only [intOf]; omega
    · have i1 : ¬ (i : Int) < (n : Int) := by omega
      have iz : decide ((i : Int) < (n : Int)) = false := decide_eq_false i1
      clear hw
      go_wp2_with fail
      go_ret
      exact ⟨rfl, unhide HW⟩
end Go.Proofs.Ytibcgimggcdllaa
