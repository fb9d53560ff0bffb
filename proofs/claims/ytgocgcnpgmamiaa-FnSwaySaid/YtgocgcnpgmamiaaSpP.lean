/-
  The tones of eight numbers by the program.
-/
import Derived.Test.YtgocgcnpgmamiaaFlOk
namespace Go.Proofs.Ytgocgcnpgmamiaa
open Go.ChangeShapes Go.WideShapes Go.ChangeAt Go.RowKit
set_option linter.unusedVariables false
set_option linter.unusedSimpArgs false
attribute [local go_sem] run_store_flt run_store_cpx

/-- the eight turns, by their bits -/
def tbl : List (Nat × Nat) := [(4607182418800017408, 0), (4604544271217802189, 13827916308072577997), (0, 13830554455654793216), (13827916308072577997, 13827916308072577997), (13830554455654793216, 0), (13827916308072577997, 4604544271217802189), (0, 4607182418800017408), (4604544271217802189, 4604544271217802189)]
def tre (q : Nat) : Nat := (tbl.getD q (0, 0)).1
def tim (q : Nat) : Nat := (tbl.getD q (0, 0)).2
def tblV : List Value := tbl.map fun p => .complex .f64 p.1 p.2
theorem tblV_at {q : Nat} (h : q < 8) : tblV[q]? = some (.complex .f64 (tre q) (tim q)) := by
  unfold tblV tre tim
  rw [List.getElem?_map, List.getD_eq_getElem?_getD, List.getElem?_eq_getElem (show q < tbl.length from h)]
  rfl
/-- the sum of the first j products of tone k -/
def spS (x : List Nat) (k : Nat) : Nat → Tn
  | 0 => (some 0, some 0)
  | j + 1 => tadd (spS x k j) (fm (Fv .f64 (x.getD j 0)) (Fv .f64 (tre (j * k % 8))), fm (Fv .f64 (x.getD j 0)) (Fv .f64 (tim (j * k % 8))))
/-- the first k tones, part by part -/
def spF (x : List Nat) : Nat → List (Option Nat)
  | 0 => []
  | k + 1 => spF x k ++ [(spS x k 8).1, (spS x k 8).2]
theorem spF_len (x : List Nat) (k : Nat) : (spF x k).length = k * 2 := by
  induction k with
  | zero => rfl
  | succ k ih => simp [spF, ih]; omega
theorem spS_next {x : List Nat} {k j q y : Nat} (hx : x[j]? = some y) (hq : j * k % 8 = q) : spS x k (j + 1) = tadd (spS x k j) (fm (Fv .f64 y) (Fv .f64 (tre q)), fm (Fv .f64 y) (Fv .f64 (tim q))) := by
  simp only [spS, hq, List.getD_eq_getElem?_getD, hx, Option.getD_some]

set_option maxHeartbeats 1000000 in
set_option maxRecDepth 10000 in
theorem toneAt_any (u : Option Addr) (p po k c : Nat) (L : List Nat) (w : World) (hl : L.length = 8) (hk : k < 8) (hu : Fls .f64 w u p po L) :
    Calls Try.prog 58 #[.slice u 8 c, .int .i64 (k : Int)] w fun e w' => (∃ re im, e = .returned (.agg #[.float .f64 re, .float .f64 im]) ∧ tv re im = spS L k 8) ∧ Below w.heap.size w w' := by
  have HU := hide hu
  have HL := hide hl
  have k0 : (0 : Int) ≤ (k : Int) := Int.natCast_nonneg _
  clear hu hl
  go_enter Try.func58, Try.ntmps58
  go_wp2_with fail
  go_loopw [6, 13] (fun s t W => ∃ (i a b : Nat), s = .complex .f64 a b ∧ t = .int .i64 (i : Int) ∧ i ≤ 8 ∧ tv a b = spS L k i ∧ Below (w.heap.size + 2) ((w.alloc (.cells #[.float .f64 0, .float .f64 0] 33)).alloc (.cells tblV.toArray 99)) W) (fun _ s _ => 8 - (intOf s).toNat)
  case atStart => exact ⟨0, 0, 0, rfl, rfl, Nat.zero_le _, rfl, Below.refl _ _⟩
  case round =>
    obtain ⟨i, a, b, rfl, rfl, hi, hv, hw⟩ := hrel
    have HV := hide hv
    have HW := hide hw
    clear hv hw
    have i0 : (0 : Int) ≤ (i : Int) := Int.natCast_nonneg _
    have HW0 : Hid (Below w.heap.size w wr) := hide ((ba (ba (Below.refl _ _) _) _).trans ((unhide HW).mono (by omega)))
    by_cases h : i < 8
    · have i1 : (i : Int) < 8 := by omega
      have iz : decide ((i : Int) < 8) = true := decide_eq_true i1
      obtain ⟨x, hx⟩ := get_some (unhide HL) h
      obtain ⟨rfl, pw, k1⟩ := ((unhide HU).bel (unhide HW0)).at hx
      obtain ⟨q, hq⟩ : ∃ q, i * k % 8 = q := ⟨_, rfl⟩
      have q8 : q < 8 := by omega
      have HN := hide (spS_next (x := L) hx hq)
      obtain ⟨m, hm⟩ : ∃ m : Nat, i * k = m := ⟨_, rfl⟩
      have m1 : m ≤ 49 := by
        have h1 : i ≤ 7 := by omega
        have h2 : k ≤ 7 := by omega
        have := Nat.mul_le_mul h1 h2
        omega
      have mi : (i : Int) * (k : Int) = (m : Int) := by rw [← hm]; simp
      have wq : IntKind.i64.wrap ((i : Int) * (k : Int)) = (m : Int) := by rw [mi]; exact wrap_i (by omega) (by omega)
      have mt : (m : Int).tmod 8 = (q : Int) := by rw [← hq, hm]; rfl
      have q0 : (0 : Int) ≤ (q : Int) := Int.natCast_nonneg _
      have q1 : (q : Int) < 8 := by omega
      have tb : vb wr (w.heap.size + 1) 99 tblV := (vb_new2 w 99 tblV _).below (unhide HW) (by omega)
      have k2 := tb.cell (tblV_at q8)
      clear pw hx hq hm mi tb
      go_wp2_with (first | (refine upon_flt (by simp) ?_; intro _ _ _) | (refine upon_cadd ?_; intro _ _ _ _ _))
      go_roundw
      case rel =>
        refine ⟨i + 1, _, _, rfl, by simp, h, ?_, bel_dn' (unhide HW) _⟩
        rw [unhide HN, ← unhide HV]
        simp [tv, tadd, fa, fm, *]
      case measure => simp only [intOf]; omega
    · have iz : decide ((i : Int) < 8) = false := decide_eq_false (by omega)
      obtain rfl : i = 8 := by omega
      have l1 : w.heap.size + 1 < wr.heap.size := by have := (unhide HW).size; simp at this; omega
      have c0 : wr.cell? ⟨w.heap.size, 0, none⟩ = some (.float .f64 0) := ((unhide HW).cell (p := ⟨w.heap.size, 0, none⟩) (show w.heap.size < w.heap.size + 2 by omega)).trans (by simp [go_sem])
      have c1 : wr.cell? ⟨w.heap.size, 1, none⟩ = some (.float .f64 0) := ((unhide HW).cell (p := ⟨w.heap.size, 1, none⟩) (show w.heap.size < w.heap.size + 2 by omega)).trans (by simp [go_sem])
      have f0 : ∀ o, wr.frozen? ⟨w.heap.size, o, none⟩ = false := fun o => ((unhide HW).frozen (p := ⟨w.heap.size, o, none⟩) (show w.heap.size < w.heap.size + 2 by omega)).trans (by simp [go_sem])
      go_wp2_with fail
      refine (toneP _ _ _).mono ?_
      rintro e W2 ⟨rfl, hb⟩
      have d0 := keep1 hb c0
      have d1 := keep1 hb c1
      have g0 : ∀ o, W2.frozen? ⟨w.heap.size, o, none⟩ = false := fun o => keepz hb (by omega) (f0 o)
      have HB := hide hb
      clear hb c0 c1 f0
      go_wp2_with fail
      refine bodyPost_ret (v := .agg #[.float .f64 a, .float .f64 b]) (by simp [results, Try.results58, go_sem, *]) rfl ⟨⟨_, _, rfl, unhide HV⟩, ?_⟩
      exact bs (bs (bc (unhide HW0) (unhide HB)) (by omega)) (by omega)

theorem tone_info : (Try.prog.info? 33).map (fun i => (i.zero, i.size, i.bytes)) = some (some (.agg #[.float .f64 0, .float .f64 0]), 2, 16) := by kernel_rfl
/-- an answer: a row of one's own that stands for these numbers -/
def FAns (fk : FloatKind) (w : World) (B t k : Nat) (v : Value) (n : Nat) (F : List (Option Nat)) : Prop := ∃ R : List Nat, FRow fk w B t k v n R ∧ R.map (Fv fk) = F
/-- numbers put down into zeros -/
theorem ffill2 (F : List (Option Nat)) (R : List Nat) (m n : Nat) (a b : Nat) (A B : Option Nat) (hR : R.length = n * 2) (hm : m < n) (hF : (R.take (m * 2)).map (Fv .f64) = F) (ha : Fv .f64 a = A) (hb : Fv .f64 b = B) :
    (((R.set (m * 2) a).set (m * 2 + 1) b).take ((m + 1) * 2)).map (Fv .f64) = F ++ [A, B] := by
  have e : ((R.set (m * 2) a).set (m * 2 + 1) b).take ((m + 1) * 2) = R.take (m * 2) ++ [a, b] := by
    apply List.ext_getElem?
    intro j
    have hl : (R.take (m * 2)).length = m * 2 := by rw [List.length_take]; omega
    rw [List.getElem?_take]
    by_cases h0 : j < (m + 1) * 2
    · rw [if_pos h0]
      by_cases h1 : j < m * 2
      · rw [List.getElem?_append_left (by rw [hl]; exact h1), List.getElem?_take_of_lt h1, List.getElem?_set_ne (by omega), List.getElem?_set_ne (by omega)]
      · rw [List.getElem?_append_right (by rw [hl]; omega), hl]
        by_cases h2 : j = m * 2
        · subst h2
          rw [List.getElem?_set_ne (by omega), List.getElem?_set_self (by omega), Nat.sub_self]
          rfl
        · have h3 : j = m * 2 + 1 := by omega
          subst h3
          rw [List.getElem?_set_self (by rw [List.length_set]; omega), show m * 2 + 1 - m * 2 = 1 by omega]
          rfl
    · rw [if_neg h0, List.getElem?_eq_none (by rw [List.length_append, hl]; simp; omega)]
  rw [e, List.map_append, hF]
  simp [ha, hb]

set_option maxHeartbeats 1000000 in
set_option maxRecDepth 10000 in
theorem spP_any (u : Option Addr) (p po n c : Nat) (L : List Nat) (w : World) (hl : L.length = n) (hn : n ≤ 9223372036854775807) (hu : Fls .f64 w u p po L) :
    Calls Try.prog 17 #[.slice u n c] w fun e w' => (∃ v C, e = .returned (.tuple #[v, .int .i64 C]) ∧ ((4096 < n ∧ C = 2 ∧ v = .slice none 0 0) ∨ (n ≤ 4096 ∧ (n ≠ 8 ∨ L.all smp = false) ∧ C = 1 ∧ v = .slice none 0 0) ∨ (n = 8 ∧ L.all smp = true ∧ C = 0 ∧ FAns .f64 w' w.heap.size 33 2 v 8 (spF L 8)))) ∧ Below w.heap.size w w' := by
  have HU := hide hu
  have HL := hide hl
  have n0 : (0 : Int) ≤ (n : Int) := Int.natCast_nonneg _
  have HC := hide (cns_any u p po n c L w hl hn hu)
  clear hu hl
  by_cases h1 : 4096 < n
  · have t1 : decide ((4096 : Int) < (n : Int)) = true := decide_eq_true (by omega)
    go_enter Try.func17, Try.ntmps17
    go_wp2_with fail
    exact bodyPost_ret (v := .tuple #[.slice none 0 0, .int .i64 2]) (by simp [results, Try.results17, go_sem]) rfl ⟨⟨_, _, rfl, .inl ⟨h1, rfl, rfl⟩⟩, Below.refl _ _⟩
  · have t1 : decide ((4096 : Int) < (n : Int)) = false := decide_eq_false (by omega)
    by_cases h8 : n = 8
    · subst h8
      go_enter Try.func17, Try.ntmps17
      go_wp2_with fail
      refine (unhide HC).mono ?_
      rintro e w' ⟨rfl, rfl⟩
      cases ha : L.all smp with
      | false =>
        go_wp2_with fail
        exact bodyPost_ret (v := .tuple #[.slice none 0 0, .int .i64 1]) (by simp [results, Try.results17, go_sem]) rfl ⟨⟨_, _, rfl, .inr (.inl ⟨by omega, .inr ha, rfl, rfl⟩)⟩, Below.refl _ _⟩
      | true =>
        have HA := hide ha
        clear ha
        have hmk : (Instr.makeSlice 25 (.int .i64 8) (.int .i64 8)).run Try.prog w' = .ok (.slice (some ⟨w'.heap.size, 0, none⟩) 8 8) (w'.alloc (.cells ((fzeros (8 * 2)).map (Value.float .f64)).toArray 33)) := make_flts (fk := .f64) (P := Try.prog) 25 33 2 16 8 Try.underlying25 (.agg #[.float .f64 0, .float .f64 0]) (by rfl) (by omega) tone_info (by omega) (by omega) w'
        generalize hzz : fzeros (8 * 2) = Z at hmk
        have HZ := hide hzz
        clear hzz
        go_wp2_with fail
        have HG := hide (fblk_new (fk := .f64) w' 33 Z)
        have HB0 := hide (ba (Below.refl w'.heap.size w') (.cells (Z.map (Value.float .f64)).toArray 33))
        clear hmk
        go_loopw [19] (fun s W => ∃ (i : Nat) (R : List Nat), s = .int .i64 (i : Int) ∧ i ≤ 8 ∧ R.length = 8 * 2 ∧ fblk .f64 W w'.heap.size 33 R ∧ (R.take (i * 2)).map (Fv .f64) = spF L i ∧ Below w'.heap.size w' W) (fun s _ => 8 - (intOf s).toNat)
        case atStart => exact ⟨0, Z, rfl, Nat.zero_le _, by rw [← unhide HZ]; simp [fzeros], unhide HG, rfl, unhide HB0⟩
        case round =>
          obtain ⟨i, R, rfl, hi, hR, hb, hF, hw⟩ := hrel
          have HB := hide hb
          have HW := hide hw
          have HR := hide hR
          have HF := hide hF
          clear hb hw HG HB0 hR hF
          have i0 : (0 : Int) ≤ (i : Int) := Int.natCast_nonneg _
          by_cases h : i < 8
          · have i1 : (i : Int) < 8 := by omega
            have iz : decide ((i : Int) < 8) = true := decide_eq_true i1
            have HT := hide (toneAt_any u p po i c L wr (unhide HL) h ((unhide HU).bel (unhide HW)))
            go_wp2_with fail
            refine (unhide HT).mono ?_
            rintro e W1 ⟨⟨re, im, rfl, hv⟩, hb⟩
            have pb := (unhide HB).bel hb
            obtain ⟨y0, e0⟩ := fat_of (f := 0) (unhide HR) h (by omega)
            obtain ⟨y1, e1⟩ := fat_of (f := 1) (unhide HR) h (by omega)
            have m0 : W1.cell? ⟨w'.heap.size, i * 2, none⟩ = some (.float .f64 y0) := pb.cell e0
            have m1 : W1.cell? ⟨w'.heap.size, i * 2 + 1, none⟩ = some (.float .f64 y1) := pb.cell e1
            have fz : ∀ o, W1.frozen? ⟨w'.heap.size, o, none⟩ = false := pb.frozen
            have PB := hide pb
            have HV := hide hv
            have HW1 := hide (bc (unhide HW) hb)
            clear hb pb e0 e1 hv
            go_wp2_with fail
            go_roundw
            case rel =>
              refine ⟨i + 1, (R.set (i * 2) re).set (i * 2 + 1) im, by simp, h, by simp [unhide HR], ((unhide PB).set (i * 2) re).set (i * 2 + 1) im, ?_, bs (bs (unhide HW1) (Nat.le_refl _)) (Nat.le_refl _)⟩
              have := unhide HV
              exact ffill2 _ R i 8 re im _ _ (unhide HR) h (unhide HF) (congrArg Prod.fst this) (congrArg Prod.snd this)
            case measure => simp only [intOf]; omega
          · have iz : decide ((i : Int) < 8) = false := decide_eq_false (by omega)
            obtain rfl : i = 8 := by omega
            go_wp2_with fail
            refine bodyPost_ret (v := .tuple #[.slice (some ⟨w'.heap.size, 0, none⟩) 8 8, .int .i64 0]) (by simp [results, Try.results17, go_sem]) rfl ⟨⟨_, _, rfl, .inr (.inr ⟨by first | rfl | trivial, unhide HA, by first | rfl | trivial, R, ?_, ?_⟩)⟩, unhide HW⟩
            · exact ⟨by rw [List.length_map]; exact unhide HR, .inr ⟨_, 8, (R.map (Value.float .f64)).toArray, rfl, Nat.le_refl _, unhide HB, Nat.le_refl _, by unfold maxLen; omega, by simp [unhide HR], by rw [List.take_of_length_le (by simp [unhide HR])]⟩⟩
            · have := unhide HF
              rwa [List.take_of_length_le (by rw [unhide HR]; omega)] at this
    · have t8 : ((n : Int) != 8) = true := by simp; omega
      go_enter Try.func17, Try.ntmps17
      go_wp2_with fail
      exact bodyPost_ret (v := .tuple #[.slice none 0 0, .int .i64 1]) (by simp [results, Try.results17, go_sem]) rfl ⟨⟨_, _, rfl, .inr (.inl ⟨by omega, .inl h8, rfl, rfl⟩)⟩, Below.refl _ _⟩
end Go.Proofs.Ytgocgcnpgmamiaa
