/-
  The model's columns under a tool.
-/
import Derived.Test.YtjhldjojkaphkaaUnd
namespace Go.Proofs.Ytjhldjojkaphkaa
open Go.ChangeShapes Go.WideShapes Go.ChangeAt Go.RowKit
set_option linter.unusedVariables false
set_option linter.unusedSimpArgs false

/-- numbers as whole numbers -/
def nI (cs : List Nat) : List Int := cs.map fun i : Nat => (i : Int)
/-- the columns of the first rows, and of a row's first ones -/
def colsTo (W H r x y i : Nat) : List Nat := flatP ((pieces W H r x y).take i)
def rowTo (W r x y v j : Nat) : List Nat := ((List.range' (x - r) j).filter (inC r x y v)).map fun u => v * W + u
theorem rowTo_succ (W r x y v j : Nat) : rowTo W r x y v (j + 1) = rowTo W r x y v j ++ (if inC r x y v (x - r + j) then [v * W + (x - r + j)] else []) := by
  unfold rowTo
  rw [List.range'_concat, List.filter_append, List.map_append]
  congr 1
  simp only [Nat.one_mul]
  by_cases h : inC r x y v (x - r + j)
  · rw [if_pos h, List.filter_cons_of_pos h]; rfl
  · rw [if_neg h, List.filter_cons_of_neg (by simpa using h)]; rfl
theorem colsTo_succ {W H r x y i : Nat} (hr : r ≤ 3) (hx : x < W) (hi : i < vn H r y) (hv : vf r y + i ≤ y + r) : colsTo W H r x y (i + 1) = colsTo W H r x y i ++ rowTo W r x y (vf r y + i) (min (x + r) (W - 1) + 1 - (x - r)) := by
  unfold colsTo rowTo
  rw [pieces_take i hi, flatP_snoc, row_filter hr hx (by unfold vf; omega) hv]
theorem flat_len {ps : List (Nat × Nat)} (h : ∀ p ∈ ps, p.2 ≤ 24) : (flatP ps).length ≤ 24 * ps.length := by
  induction ps with
  | nil => simp [flatP]
  | cons p ps ih =>
    have h1 := h p (by simp)
    have h2 := ih (fun q hq => h q (by simp [hq]))
    have e : flatP (p :: ps) = List.range' p.1 p.2 ++ flatP ps := by simp [flatP]
    rw [e, List.length_append, List.length_range', List.length_cons]
    omega
theorem lens_le {W H r x y vn0 v : Nat} (hW : W ≤ 24) (hx : x < W) (i j : Nat) (hj : j ≤ 100) (hi : i < vn0) (hp : (pieces W H r x y).length = vn0) (hv : vn0 ≤ 100) : (colsTo W H r x y i ++ rowTo W r x y v j).length ≤ 1000000 := by
  have h1 : (colsTo W H r x y i).length ≤ 24 * ((pieces W H r x y).take i).length := flat_len (fun p hp => by
    have hp := List.mem_of_mem_take hp
    unfold pieces at hp
    obtain ⟨v, _, rfl⟩ := List.mem_map.1 hp
    have := piece_ok (r := r) (y := y) (v := v) hx
    simp only [piece]
    omega)
  have h2 : (rowTo W r x y v j).length ≤ j := by
    unfold rowTo
    rw [List.length_map]
    have := List.length_filter_le (inC r x y v) (List.range' (x - r) j)
    rw [List.length_range'] at this
    exact this
  have h3 : ((pieces W H r x y).take i).length ≤ vn0 := by rw [List.length_take, hp]; omega
  rw [List.length_append]
  omega
theorem sq_d {a b : Nat} (ha : a < 24) (hb : b < 24) : 0 ≤ ((a : Int) - b) * ((a : Int) - b) ∧ ((a : Int) - b) * ((a : Int) - b) ≤ 576 := by
  refine ⟨sq_nn _, ?_⟩
  have h : 0 ≤ (24 - ((a : Int) - b)) * (24 + ((a : Int) - b)) := Int.mul_nonneg (by omega) (by omega)
  have e : (24 - ((a : Int) - b)) * (24 + ((a : Int) - b)) = 576 - ((a : Int) - b) * ((a : Int) - b) := by grind
  omega
set_option maxHeartbeats 4000000 in
set_option maxRecDepth 100000 in
theorem colM_any (W H r x y : Nat) (u : Option Addr) (n c : Nat) (w : World) (hW : W ≤ 24) (hH : H ≤ 24) (hr : r ≤ 3) (hx : x < W) (hy : y < H) :
    Calls Try.prog 79 #[fldV (W : Int) (H : Int) u n c, .int .i64 (r : Int), .int .i64 (x : Int), .int .i64 (y : Int)] w fun e w' => (∃ v, e = .returned v ∧ v ≠ .slice none 0 0 ∧ Row w' w.heap.size 3 1 v (cols W H r x y).length (nI (cols W H r x y))) ∧ Below w.heap.size w w' := by
  have HB := hide (ba (ba (Below.refl w.heap.size w) (.cells #[.int .i64 (W : Int), .int .i64 (H : Int), .slice u n c] 25)) (.cells #[] 3))
  have HV := hide (vb_new1 w 25 [.int .i64 (W : Int), .int .i64 (H : Int), .slice u n c] (.cells #[] 3))
  have HR0 : Hid (Row ((w.alloc (.cells #[.int .i64 (W : Int), .int .i64 (H : Int), .slice u n c] 25)).alloc (.cells #[] 3)) (w.heap.size + 1) 3 1 (.slice (some ⟨w.heap.size + 1, 0, none⟩) 0 0) 0 []) := hide (row_made _ 3 _ 1 (by simp) _ (by simp))
  have HPL := hide (pieces_len W H r x y)
  obtain ⟨iP, hi1, hy0, hy1, hy2⟩ := info_parts int_info3
  have ws : IntKind.i64.wrap ((y : Int) - (r : Int)) = (y : Int) - (r : Int) := Go.IntWalk.i64_in _ ⟨by omega, by omega⟩
  have wa : IntKind.i64.wrap ((y : Int) + (r : Int)) = (y : Int) + (r : Int) := Go.IntWalk.i64_in _ ⟨by omega, by omega⟩
  have wh : IntKind.i64.wrap ((H : Int) - 1) = (H : Int) - 1 := Go.IntWalk.i64_in _ ⟨by omega, by omega⟩
  have ws' : IntKind.i64.wrap ((x : Int) - (r : Int)) = (x : Int) - (r : Int) := Go.IntWalk.i64_in _ ⟨by omega, by omega⟩
  have wa' : IntKind.i64.wrap ((x : Int) + (r : Int)) = (x : Int) + (r : Int) := Go.IntWalk.i64_in _ ⟨by omega, by omega⟩
  have wh' : IntKind.i64.wrap ((W : Int) - 1) = (W : Int) - 1 := Go.IntWalk.i64_in _ ⟨by omega, by omega⟩
  have hr9 := rr_cases hr
  have wrr : IntKind.i64.wrap ((r : Int) * (r : Int)) = (r : Int) * (r : Int) := Go.IntWalk.i64_in _ ⟨by omega, by omega⟩
  clear hr9
  have hvn : vf r y + vn H r y = min (y + r) (H - 1) + 1 := by unfold vf vn; omega
  have hv1 : 1 ≤ vn H r y := by unfold vn; omega
  obtain ⟨uf0, hu0⟩ : ∃ uf0, x - r = uf0 := ⟨_, rfl⟩
  obtain ⟨un, hun⟩ : ∃ un, min (x + r) (W - 1) + 1 - (x - r) = un := ⟨_, rfl⟩
  have HU0 := hide hu0
  have HUN := hide hun
  have m0 : max ((y : Int) - (r : Int)) (0 : Int) = ((vf r y : Nat) : Int) := by unfold vf; omega
  have m1 : min ((y : Int) + (r : Int)) ((H : Int) - 1) = ((vf r y + vn H r y - 1 : Nat) : Int) := by omega
  have m2 : max ((x : Int) - (r : Int)) (0 : Int) = (uf0 : Int) := by omega
  have hun1 : 1 ≤ un := by omega
  have hun2 : uf0 + un = min (x + r) (W - 1) + 1 := by omega
  have m3 : min ((x : Int) + (r : Int)) ((W : Int) - 1) = ((uf0 + un - 1 : Nat) : Int) := by omega
  have HVN := hide hvn
  have HV1 := hide hv1
  have HU1 := hide hun1
  have HU2 := hide hun2
  have HCS := hide (fun i (h1 : i < vn H r y) (h2 : vf r y + i ≤ y + r) => colsTo_succ (W := W) hr hx h1 h2)
  obtain ⟨vf0, ev⟩ : ∃ vf0, vf r y = vf0 := ⟨_, rfl⟩
  obtain ⟨vn0, en⟩ : ∃ vn0, vn H r y = vn0 := ⟨_, rfl⟩
  rw [ev] at m0 m1 HVN
  rw [en] at m1 HVN HV1
  rw [ev, en] at HCS
  rw [en] at HPL
  have HEV := hide ev
  unfold fldV at *
  clear hvn hv1 hun1 hun2 hu0 hun ev en
  go_enter Try.func79, Try.ntmps79
  go_wp2_with fail
  go_loopw [9, 10] (fun z9 z X => ∃ i : Nat, z = .int .i64 ((vf0 : Int) + (i : Int)) ∧ i ≤ vn0 ∧ z9 ≠ .slice none 0 0 ∧ Row X (w.heap.size + 1) 3 1 z9 (colsTo W H r x y i).length (nI (colsTo W H r x y i)) ∧ vb X w.heap.size 25 [.int .i64 (W : Int), .int .i64 (H : Int), .slice u n c] ∧ Below w.heap.size w X) (fun _ z _ => vf0 + vn0 - (intOf z).toNat)
  case atStart => exact ⟨0, by simp, Nat.zero_le _, by simp, unhide HR0, unhide HV, unhide HB⟩
  case round =>
    obtain ⟨i, rfl, hi, hz9, hro, hv, hw⟩ := hrel
    have HRO := hide hro
    have HZ9 := hide hz9
    have HVV := hide hv
    have HWW := hide hw
    have k0 := hv.cell (m := 0) rfl
    have k1 := hv.cell (m := 1) rfl
    clear hro hz9 hv hw
    by_cases h : i < vn0
    · have hvH : vf0 + i < H := by have := unhide HVN; have := unhide HV1; omega
      have hvy : vf0 + i ≤ y + r := by have := unhide HVN; have := unhide HV1; omega
      have d2 : (vf0 : Int) + (i : Int) ≤ ((vf0 + vn0 - 1 : Nat) : Int) := by omega
      have d3 := decide_eq_true d2
      have HC1 := hide ((unhide HCS) i h hvy)
      have hv24 : vf0 + i < 24 := by omega
      have wk : IntKind.i64.wrap ((vf0 : Int) + (i : Int) - (y : Int)) = (vf0 : Int) + (i : Int) - (y : Int) := Go.IntWalk.i64_in _ ⟨by omega, by omega⟩
      have wi : IntKind.i64.wrap ((vf0 : Int) + (i : Int) + 1) = (vf0 : Int) + (i : Int) + 1 := Go.IntWalk.i64_in _ ⟨by omega, by omega⟩
      have sk : ((vf0 : Int) + (i : Int) - (y : Int)) * ((vf0 : Int) + (i : Int) - (y : Int)) = (((vf0 + i : Nat) : Int) - y) * (((vf0 + i : Nat) : Int) - y) := by rw [Int.natCast_add]
      have skb := sq_d (a := vf0 + i) (b := y) hv24 (by omega)
      rw [← sk] at skb
      have HSK := hide sk
      obtain ⟨skb1, skb2⟩ := skb
      have wkk : IntKind.i64.wrap (((vf0 : Int) + (i : Int) - (y : Int)) * ((vf0 : Int) + (i : Int) - (y : Int))) = ((vf0 : Int) + (i : Int) - (y : Int)) * ((vf0 : Int) + (i : Int) - (y : Int)) := Go.IntWalk.i64_in _ ⟨by omega, by omega⟩
      have hvW : (vf0 + i) * W ≤ 24 * 24 := Nat.mul_le_mul (by omega) hW
      have evW : ((vf0 : Int) + (i : Int)) * (W : Int) = (((vf0 + i) * W : Nat) : Int) := by simp
      obtain ⟨vW, hvw⟩ : ∃ vW, (vf0 + i) * W = vW := ⟨_, rfl⟩
      rw [hvw] at evW hvW
      have wvW : IntKind.i64.wrap (((vf0 : Int) + (i : Int)) * (W : Int)) = (vW : Int) := by rw [evW]; exact Go.IntWalk.i64_in _ ⟨by omega, by omega⟩
      have HVWE := hide hvw
      clear sk evW hi hvw
      go_wp2_with fail
      generalize hWo : wr = Wo at *
      clear hWo
      go_loopw [9, 11] (fun z9 z X => ∃ j : Nat, z = .int .i64 ((uf0 : Int) + (j : Int)) ∧ j ≤ un ∧ z9 ≠ .slice none 0 0 ∧ Row X (w.heap.size + 1) 3 1 z9 (colsTo W H r x y i ++ rowTo W r x y (vf0 + i) j).length (nI (colsTo W H r x y i ++ rowTo W r x y (vf0 + i) j)) ∧ vb X w.heap.size 25 [.int .i64 (W : Int), .int .i64 (H : Int), .slice u n c] ∧ Below w.heap.size w X) (fun _ z _ => uf0 + un - (intOf z).toNat)
      case atStart => exact ⟨0, by simp, Nat.zero_le _, unhide HZ9, by simpa [rowTo] using unhide HRO, unhide HVV, unhide HWW⟩
      case round =>
        obtain ⟨j, rfl, hj, hz, hro, hv, hw⟩ := hrel
        have HRO2 := hide hro
        have HZ2 := hide hz
        have HV2 := hide hv
        have HW2 := hide hw
        have q0 := hv.cell (m := 0) rfl
        have q1 := hv.cell (m := 1) rfl
        have HSZ : Hid (w.heap.size + 1 ≤ wr.heap.size) := hide hv.lt
        clear hro hz hv hw
        by_cases h2 : j < un
        · have e2 : (uf0 : Int) + (j : Int) ≤ ((uf0 + un - 1 : Nat) : Int) := by omega
          have e3 := decide_eq_true e2
          have huW : uf0 + j < W := by have := unhide HU2; have := unhide HU1; omega
          have HRS : Hid (rowTo W r x y (vf0 + i) (j + 1) = rowTo W r x y (vf0 + i) j ++ (if inC r x y (vf0 + i) (uf0 + j) then [(vf0 + i) * W + (uf0 + j)] else [])) := hide (by rw [rowTo_succ, unhide HU0])
          have wx : IntKind.i64.wrap ((uf0 : Int) + (j : Int) - (x : Int)) = (uf0 : Int) + (j : Int) - (x : Int) := Go.IntWalk.i64_in _ ⟨by omega, by omega⟩
          have wj : IntKind.i64.wrap ((uf0 : Int) + (j : Int) + 1) = (uf0 : Int) + (j : Int) + 1 := Go.IntWalk.i64_in _ ⟨by omega, by omega⟩
          have sx : ((uf0 : Int) + (j : Int) - (x : Int)) * ((uf0 : Int) + (j : Int) - (x : Int)) = (((uf0 + j : Nat) : Int) - x) * (((uf0 + j : Nat) : Int) - x) := by rw [Int.natCast_add]
          have sxb := sq_d (a := uf0 + j) (b := x) (by omega) (by omega)
          rw [← sx] at sxb
          have HSX := hide sx
          obtain ⟨sxb1, sxb2⟩ := sxb
          have wxx : IntKind.i64.wrap (((uf0 : Int) + (j : Int) - (x : Int)) * ((uf0 : Int) + (j : Int) - (x : Int))) = ((uf0 : Int) + (j : Int) - (x : Int)) * ((uf0 : Int) + (j : Int) - (x : Int)) := Go.IntWalk.i64_in _ ⟨by omega, by omega⟩
          have wss : IntKind.i64.wrap (((uf0 : Int) + (j : Int) - (x : Int)) * ((uf0 : Int) + (j : Int) - (x : Int)) + ((vf0 : Int) + (i : Int) - (y : Int)) * ((vf0 : Int) + (i : Int) - (y : Int))) = ((uf0 : Int) + (j : Int) - (x : Int)) * ((uf0 : Int) + (j : Int) - (x : Int)) + ((vf0 : Int) + (i : Int) - (y : Int)) * ((vf0 : Int) + (i : Int) - (y : Int)) := Go.IntWalk.i64_in _ ⟨by omega, by omega⟩
          have HIN : Hid (inC r x y (vf0 + i) (uf0 + j) = decide (((uf0 : Int) + (j : Int) - (x : Int)) * ((uf0 : Int) + (j : Int) - (x : Int)) + ((vf0 : Int) + (i : Int) - (y : Int)) * ((vf0 : Int) + (i : Int) - (y : Int)) ≤ (r : Int) * (r : Int))) := hide (by unfold inC; rw [unhide HSX, unhide HSK])
          clear sx
          by_cases hin : ((uf0 : Int) + (j : Int) - (x : Int)) * ((uf0 : Int) + (j : Int) - (x : Int)) + ((vf0 : Int) + (i : Int) - (y : Int)) * ((vf0 : Int) + (i : Int) - (y : Int)) ≤ (r : Int) * (r : Int)
          · have t1 := decide_eq_true hin
            have wc1 : IntKind.i64.wrap ((vW : Int) + ((uf0 : Int) + (j : Int))) = (((vf0 + i) * W + (uf0 + j) : Nat) : Int) := by
              rw [unhide HVWE, show ((vW + (uf0 + j) : Nat) : Int) = (vW : Int) + ((uf0 : Int) + (j : Int)) by omega]
              exact Go.IntWalk.i64_in _ ⟨by omega, by omega⟩
            have HRS2 : Hid (rowTo W r x y (vf0 + i) (j + 1) = rowTo W r x y (vf0 + i) j ++ [(vf0 + i) * W + (uf0 + j)]) := hide (by rw [unhide HRS, if_pos (by rw [unhide HIN]; exact t1)])
            obtain ⟨cc, hcc⟩ : ∃ cc, (vf0 + i) * W + (uf0 + j) = cc := ⟨_, rfl⟩
            rw [hcc] at wc1 HRS2
            obtain ⟨LL, hLL⟩ : ∃ LL, colsTo W H r x y i ++ rowTo W r x y (vf0 + i) j = LL := ⟨_, rfl⟩
            rw [hLL] at HRO2
            have HLL : Hid (colsTo W H r x y i ++ rowTo W r x y (vf0 + i) (j + 1) = LL ++ [cc]) := hide (by rw [unhide HRS2, ← List.append_assoc, hLL])
            have HLN : Hid (LL.length ≤ 1000000) := hide (by rw [← hLL]; exact lens_le hW hx i j (by have := unhide HU2; omega) h (unhide HPL) (by have := unhide HVN; omega))
            clear hcc hLL HRS
            go_wp2_with (at_builtin; refine unhide ?_)
            refine hide ?_
            refine wpList_append_own _ rfl _ _ 23 rfl (w.heap.size + 1) 3 iP _ 1 8 Try.underlying23 hi1 hy0 hy1 hy2 rfl (by decide) _ LL.length ((nI LL).map (Value.int .i64)) rfl ((unhide HRO2).alloc _) _ 1 1 ([(cc : Int)].map (Value.int .i64)) rfl rfl (by first | exact news_cells _ _ rfl | exact news_cells _ _ (by simp)) ints_one (by unfold maxLen; have := unhide HLN; omega) (by have := unhide HLN; omega) (by first | (have := unhide HSZ; omega) | (have := unhide HSZ; simp; omega)) ?_
            intro v1 w1 hown' hgrow hvn1
            have R1 := own_more (wr := wr) (news := [(cc : Int)]) (by repeat (first | exact Below.refl _ _ | refine Below.alloc ?_ (by first | exact unhide HSZ | (simp; exact unhide HSZ)) _ | refine Below.drew ?_)) (by first | exact Nat.le_trans (unhide HSZ) (by simp) | (have := unhide HSZ; simp; omega) | (have := unhide HSZ; omega)) (unhide HRO2) hown' hgrow
            have HR1 := hide R1.1
            have HN1 : Hid (v1 ≠ .slice none 0 0) := hide (fun e => by have := (hvn1.1 e).2; omega)
            have HV3 := hide ((unhide HV2).below R1.2 (Nat.lt_succ_self _))
            have HW3 := hide ((unhide HW2).trans (R1.2.mono (Nat.le_succ _)))
            clear hown' hgrow hvn1 R1
            go_wp2_with fail
            go_roundw
            case rel => exact ⟨j + 1, by first | rfl | (simp; omega), h2, unhide HN1, by rw [unhide HLL]; simpa [nI] using unhide HR1, unhide HV3, unhide HW3⟩
            case measure => simp only [intOf]; omega
          · have t1 := decide_eq_false hin
            have HRS2 : Hid (rowTo W r x y (vf0 + i) (j + 1) = rowTo W r x y (vf0 + i) j) := hide (by rw [unhide HRS, if_neg (by rw [unhide HIN, t1]; simp), List.append_nil])
            clear HRS
            go_wp2_with fail
            go_roundw
            case rel => exact ⟨j + 1, by first | rfl | (simp; omega), h2, unhide HZ2, by rw [unhide HRS2]; exact unhide HRO2, unhide HV2, unhide HW2⟩
            case measure => simp only [intOf]; omega
        · have e2 : ¬ (uf0 : Int) + (j : Int) ≤ ((uf0 + un - 1 : Nat) : Int) := by have := unhide HU1; omega
          have e3 := decide_eq_false e2
          obtain rfl : j = un := by omega
          have HC2 : Hid (colsTo W H r x y (i + 1) = colsTo W H r x y i ++ rowTo W r x y (vf0 + i) j) := hide (by rw [unhide HC1, unhide HUN])
          go_wp2_with fail
          go_roundw
          case rel => exact ⟨i + 1, by first | rfl | (simp; omega), h, unhide HZ2, by rw [unhide HC2]; exact unhide HRO2, unhide HV2, unhide HW2⟩
          case measure => simp only [intOf]; omega
    · have d2 : ¬ (vf0 : Int) + (i : Int) ≤ ((vf0 + vn0 - 1 : Nat) : Int) := by have := unhide HV1; omega
      have d3 := decide_eq_false d2
      obtain rfl : i = vn0 := by omega
      have HE : Hid (colsTo W H r x y i = cols W H r x y) := hide (by unfold colsTo cols; rw [List.take_of_length_le (by rw [unhide HPL]; omega)])
      go_wp2_with fail
      go_ret
      refine ⟨⟨_, rfl, unhide HZ9, ?_⟩, unhide HWW⟩
      have h1 := unhide HRO
      rw [unhide HE] at h1
      exact h1.mono (Nat.le_succ _)
end Go.Proofs.Ytjhldjojkaphkaa
