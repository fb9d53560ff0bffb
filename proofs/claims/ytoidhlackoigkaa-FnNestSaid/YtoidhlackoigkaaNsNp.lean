/-
  The program's spots and height of a nest, and its Nest.
-/
import Derived.Test.YtoidhlackoigkaaNsFm
import Derived.Test.YtoidhlackoigkaaGen
import Derived.Test.YtoidhlackoigkaaNsCo
import Derived.Lib.MinMax
namespace Go.Proofs.Ytoidhlackoigkaa
open Go.ChangeShapes Go.WideShapes Go.ChangeAt Go.RowKit
set_option linter.unusedVariables false
set_option linter.unusedSimpArgs false

set_option maxHeartbeats 2000000 in
theorem heP_any (Wd : Int) (u : Option Addr) (b po n c : Nat) (L : List Ld) (w : World) (hl : L.length = n) (hn : n ≤ 900) (hu : Lds w u b po L) (hs : Near L) :
    Calls Try.prog 25 #[.agg #[.int .i64 Wd, .slice u n c]] w fun e w' => e = .returned (.int .i64 (hgtOf L)) ∧ Below w.heap.size w w' := by
  have HU := hide (fun X (hX : Below w.heap.size w X) => hu.bel hX)
  have HL := hide hl
  have HS := hide hs.nr
  have n0 : (0 : Int) ≤ (n : Int) := Int.natCast_nonneg _
  have HB := hide (ba (Below.refl w.heap.size w) (.cells #[.int .i64 Wd, .slice u n c] 47))
  clear hl hu hs
  go_enter Try.func25, Try.ntmps25
  go_wp2_with fail
  go_loopw [3, 5, 9] (fun v _ s W => ∃ i : Nat, s = .int .i64 (i : Int) ∧ i ≤ n ∧ v = .int .i64 (hgtOf (L.take i)) ∧ Below w.heap.size w W) (fun _ _ s _ => n - (intOf s).toNat)
  case atStart => exact ⟨0, rfl, Nat.zero_le _, rfl, unhide HB⟩
  case round =>
    obtain ⟨i, rfl, hi, rfl, hb⟩ := hrel
    have HBW := hide hb
    by_cases h : i < n
    · have i1 : (i : Int) < (n : Int) := by omega
      have i0 : (0 : Int) ≤ (i : Int) := Int.natCast_nonneg _
      have iz : decide ((i : Int) < (n : Int)) = true := decide_eq_true i1
      obtain ⟨l, hx⟩ := get_some (unhide HL) h
      obtain ⟨rfl, pw, k9⟩ := (unhide HU _ hb).at hx
      have k0 := k9 0 _ rfl
      have k1 := k9 1 _ rfl
      have k2 := k9 2 _ rfl
      have k3 := k9 3 _ rfl
      have k4 := k9 4 _ rfl
      have k5 := k9 5 _ rfl
      rw [Nat.add_zero] at k0
      have HT := hide (fun X => top_any l.n l.t l.a X (unhide HS l (List.mem_of_getElem? hx)).sm)
      unfold ldV at HT
      have HTT := hide (hgtOf_take hx)
      clear hb pw hx k9
      generalize hgtOf (L.take i) = hv at *
      go_wp2_with fail
      refine (unhide HT _).mono ?_
      rintro e W2 ⟨rfl, hb2⟩
      have HB2 := hide (bc (ba (unhide HBW) _) hb2)
      clear hb2 k0 k1 k2 k3 k4 k5
      go_wp2_with fail
      go_roundw
      case rel => first | exact ⟨i + 1, by simp, h, by rw [unhide HTT], unhide HB2⟩ | ((repeat apply Exists.intro); refine ⟨?_, rfl⟩; exact ⟨i + 1, by simp, h, by rw [unhide HTT], unhide HB2⟩)
      case measure => first | (simp only [intOf]; omega) | (simp [intOf]; omega)
    · have iz : decide ((i : Int) < (n : Int)) = false := decide_eq_false (by omega)
      obtain rfl : n = i := by omega
      have HE := hide (show L.take n = L from List.take_of_length_le (Nat.le_of_eq (unhide HL)))
      clear hb
      go_wp2_with fail
      go_ret
      exact ⟨by rw [unhide HE]; rfl, unhide HBW⟩
theorem spot_info : (Try.prog.info? 61).map (fun i => (i.zero, i.size, i.bytes)) = some (some (.agg #[.int .i64 0, .int .i64 0, .int .i64 0, .bool false]), 4, 32) := by kernel_rfl
/-- cells of a row that is made: the first ones written, the others as they were made -/
def z4 : List Value := [.int .i64 0, .int .i64 0, .int .i64 0, .bool false]
def zrow : Nat → List Value
  | 0 => []
  | n + 1 => z4 ++ zrow n
theorem zrow_len (n : Nat) : (zrow n).length = n * 4 := by induction n with | zero => rfl | succ n ih => simp only [zrow, List.length_append, ih, z4, List.length_cons, List.length_nil]; omega
theorem zrow_at (n j : Nat) (h : j < n * 4) : (zrow n)[j]? = z4[j % 4]? := by
  induction n generalizing j with
  | zero => omega
  | succ n ih =>
    simp only [zrow]
    by_cases hj : j < 4
    · rw [List.getElem?_append_left (by simpa [z4] using hj), Nat.mod_eq_of_lt hj]
    · rw [List.getElem?_append_right (by simp [z4]; omega)]
      simp only [z4, List.length_cons, List.length_nil]
      rw [ih (j - 4) (by omega)]
      rw [show j % 4 = (j - 4) % 4 by omega]
      rfl
theorem made_z (n : Nat) : madeCells (Value.agg #[.int .i64 0, .int .i64 0, .int .i64 0, .bool false]).cells (n * 4) = (zrow n).toArray := by
  apply Array.ext
  · simp [madeCells, zrow_len]
  · intro i h1 h2
    have hi : i < n * 4 := by simpa [madeCells] using h1
    have h3 := zrow_at n i hi
    have h4 : (zrow n)[i]? = some ((zrow n)[i]'(by rw [zrow_len]; exact hi)) := List.getElem?_eq_getElem _
    rw [h4] at h3
    have : i % 4 = 0 ∨ i % 4 = 1 ∨ i % 4 = 2 ∨ i % 4 = 3 := by omega
    rcases this with e | e | e | e <;> (rw [e] at h3; simp [z4] at h3; simp [madeCells, Value.cells, e, h3])
theorem make_sp (n : Nat) (hn : n ≤ 1000000) (W : World) : (Instr.makeSlice 26 (.int .i64 (n : Int)) (.int .i64 (n : Int))).run Try.prog W = .ok (.slice (some ⟨W.heap.size, 0, none⟩) n n) (W.alloc (.cells (zrow n).toArray 61)) := by
  obtain ⟨i, h1, h2, h3, h4⟩ := info_parts spot_info
  have := run_make (P := Try.prog) W 26 61 i _ Try.underlying26 h1 h2 .i64 .i64 n n (by omega) (by omega) (by rw [h4]; omega) (by omega)
  rw [Int.toNat_natCast, h3, made_z] at this
  exact this
theorem zr_step {L : List Ld} {i : Nat} {l : Ld} (hx : L[i]? = some l) {n : Nat} (hn : L.length = n) : setAll (flatG spC (L.take i) ++ zrow (n - i)) (i * 4) (spC l) = flatG spC (L.take (i + 1)) ++ zrow (n - (i + 1)) := by
  have hi := (List.getElem?_eq_some_iff.1 hx).1
  have hl : (flatG spC (L.take i)).length = i * 4 := by rw [flatG_len spC_len, List.length_take, Nat.min_eq_left (by omega)]
  have e : n - i = (n - (i + 1)) + 1 := by omega
  rw [e]
  simp only [zrow]
  have h2 := setAll_right (flatG spC (L.take i)) (z4 ++ zrow (n - (i + 1))) 0 (spC l)
  rw [hl] at h2
  simp only [Nat.add_zero] at h2
  rw [h2, setAll_over z4 (zrow (n - (i + 1))) (spC l) rfl, List.take_add_one, hx, flatG_append]
  simp [flatG]
set_option maxHeartbeats 4000000 in
theorem spP_any (Wd : Int) (u : Option Addr) (b po n c : Nat) (L : List Ld) (w : World) (hl : L.length = n) (hn : n ≤ 900) (hu : Lds w u b po L) :
    Calls Try.prog 24 #[.agg #[.int .i64 Wd, .slice u n c]] w fun e w' => (∃ g, e = .returned (.slice (some ⟨g, 0, none⟩) n n) ∧ vb w' g 61 (flatG spC L) ∧ w.heap.size ≤ g) ∧ Below w.heap.size w w' := by
  have HU := hide (fun X (hX : Below w.heap.size w X) => hu.bel hX)
  have HL := hide hl
  have n0 : (0 : Int) ≤ (n : Int) := Int.natCast_nonneg _
  have hmk := fun X => make_sp n (by omega) X
  have HB := hide (ba (ba (Below.refl w.heap.size w) (.cells #[.int .i64 Wd, .slice u n c] 47)) (.cells (zrow n).toArray 61))
  have HV := hide (vb_new (w.alloc (.cells #[.int .i64 Wd, .slice u n c] 47)) 61 (zrow n) (w.heap.size + 1) (by simp))
  have HV1 := hide ((vb_new w 47 [.int .i64 Wd, .slice u n c] w.heap.size rfl).bel (ba (Below.refl _ _) (.cells (zrow n).toArray 61)))
  clear hl hu
  generalize hzz : zrow n = Z at hmk HV HB HV1
  have HZ := hide hzz
  clear hzz
  go_enter Try.func24, Try.ntmps24
  go_wp2_with fail
  clear hmk
  go_loopw [4, 5, 13] (fun _ _ s W => ∃ i : Nat, s = .int .i64 (i : Int) ∧ i ≤ n ∧ vb W (w.heap.size + 1) 61 (flatG spC (L.take i) ++ zrow (n - i)) ∧ Below w.heap.size w W) (fun _ _ s _ => n - (intOf s).toNat)
  case atStart =>
    refine ⟨0, rfl, Nat.zero_le _, ?_, unhide HB⟩
    have e : flatG spC (L.take 0) ++ zrow (n - 0) = Z := by rw [← unhide HZ]; rfl
    rw [e]
    exact unhide HV
  case round =>
    obtain ⟨i, rfl, hi, hv, hb⟩ := hrel
    have HBW := hide hb
    have HVW := hide hv
    clear HV HV1 HB
    by_cases h : i < n
    · have i1 : (i : Int) < (n : Int) := by omega
      have i0 : (0 : Int) ≤ (i : Int) := Int.natCast_nonneg _
      have iz : decide ((i : Int) < (n : Int)) = true := decide_eq_true i1
      obtain ⟨l, hx⟩ := get_some (unhide HL) h
      obtain ⟨rfl, pw, k9⟩ := (unhide HU _ hb).at hx
      have k0 := k9 0 _ rfl
      have k1 := k9 1 _ rfl
      have k2 := k9 2 _ rfl
      have k3 := k9 3 _ rfl
      have k4 := k9 4 _ rfl
      have k5 := k9 5 _ rfl
      rw [Nat.add_zero] at k0
      have hfl : (flatG spC (L.take i)).length = i * 4 := by rw [flatG_len spC_len, List.length_take, Nat.min_eq_left (by rw [unhide HL]; omega)]
      have hz : ∀ j, j < 4 → (flatG spC (L.take i) ++ zrow (n - i))[i * 4 + j]? = z4[j]? := by
        intro j hj
        rw [List.getElem?_append_right (by omega), hfl, show i * 4 + j - i * 4 = j by omega, zrow_at _ _ (by omega), Nat.mod_eq_of_lt hj]
      have m0 : wr.cell? ⟨w.heap.size + 1, i * 4, none⟩ = some (.int .i64 0) := hv.cell (hz 0 (by omega))
      have m1 : wr.cell? ⟨w.heap.size + 1, i * 4 + 1, none⟩ = some (.int .i64 0) := hv.cell (hz 1 (by omega))
      have m2 : wr.cell? ⟨w.heap.size + 1, i * 4 + 2, none⟩ = some (.int .i64 0) := hv.cell (hz 2 (by omega))
      have m3 : wr.cell? ⟨w.heap.size + 1, i * 4 + 3, none⟩ = some (.bool false) := hv.cell (hz 3 (by omega))
      have fz := hv.frozen
      have lz := hv.lt
      have HST := hide (zr_step hx (unhide HL))
      clear hb hv pw hx k9 hfl hz
      go_wp2_with fail
      go_roundw
      case rel =>
        have hv4 : vb ((((wr.setCell ⟨w.heap.size + 1, i * 4, none⟩ (.int .i64 l.n)).setCell ⟨w.heap.size + 1, i * 4 + 1, none⟩ (.int .i64 l.a.x)).setCell ⟨w.heap.size + 1, i * 4 + 2, none⟩ (.int .i64 l.a.y)).setCell ⟨w.heap.size + 1, i * 4 + 3, none⟩ (.bool l.t)) (w.heap.size + 1) 61 (setAll (flatG spC (L.take i) ++ zrow (n - i)) (i * 4) (spC l)) := ((((unhide HVW).set (i * 4) _).set (i * 4 + 1) _).set (i * 4 + 2) _).set (i * 4 + 3) _
        rw [unhide HST] at hv4
        have hb4 : Below w.heap.size w ((((wr.setCell ⟨w.heap.size + 1, i * 4, none⟩ (.int .i64 l.n)).setCell ⟨w.heap.size + 1, i * 4 + 1, none⟩ (.int .i64 l.a.x)).setCell ⟨w.heap.size + 1, i * 4 + 2, none⟩ (.int .i64 l.a.y)).setCell ⟨w.heap.size + 1, i * 4 + 3, none⟩ (.bool l.t)) := ((((unhide HBW).setCell (by simp) _).setCell (by simp) _).setCell (by simp) _).setCell (by simp) _
        first | exact ⟨i + 1, by simp, h, hv4.bel (ba (Below.refl _ _) _), ba hb4 _⟩ | ((repeat apply Exists.intro); refine ⟨?_, rfl⟩; exact ⟨i + 1, by simp, h, hv4.bel (ba (Below.refl _ _) _), ba hb4 _⟩)
      case measure => first | (simp only [intOf]; omega) | (simp [intOf]; omega)
    · have iz : decide ((i : Int) < (n : Int)) = false := decide_eq_false (by omega)
      obtain rfl : n = i := by omega
      have HE : Hid (flatG spC (L.take n) ++ zrow (n - n) = flatG spC L) := hide (by rw [List.take_of_length_le (Nat.le_of_eq (unhide HL)), Nat.sub_self]; simp [zrow])
      clear hb hv
      go_wp2_with fail
      go_ret
      refine ⟨⟨w.heap.size + 1, rfl, ?_, by omega⟩, unhide HBW⟩
      rw [← unhide HE]
      exact unhide HVW
end Go.Proofs.Ytoidhlackoigkaa
