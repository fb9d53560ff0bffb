/-
  Small functions of strips: places found, squares, ways. Rows of numbers that are made and filled. What the laws ask of rows: that two are the same, that one is written over, that it is held, that it is made of another. Right points, one and many, of both sides. A polygon's sides, as the program lays them.
-/
import Derived.Test.YtdcecfgmfmpeeaaPlaneq
import Derived.Test.YtdcecfgmfmpeeaaHtaq
import Derived.Lib.MinMax
import Derived.Test.YtdcecfgmfmpeeaaLeavesq
import Derived.Laws.MakeOwn
namespace Go.Proofs.Ytdcecfgmfmpeeaa
open Go.ChangeShapes Go.WideShapes Go.ChangeAt Go.RowKit
set_option linter.unusedVariables false
set_option linter.unusedSimpArgs false
theorem eq30 (a1 a2 b1 b2 : Int) (W : World) : (binOp .eql 30 (.agg #[.int .i64 a1, .int .i64 a2]) (.agg #[.int .i64 b1, .int .i64 b2])).run Try.prog W = .ok (.bool (decide ((a1, a2) = (b1, b2)))) W := by
 cases h1 : a1 == b1 <;> cases h2 : a2 == b2
 all_goals
  have k1 := h1
  have k2 := h2
  simp only [beq_eq_false_iff_ne, beq_iff_eq] at k1 k2
  have e : decide ((a1, a2) = (b1, b2)) = (a1 == b1 && a2 == b2) := by simp [k1, k2]
  rw [e, h1, h2]
  clear e k1 k2
  go_simp
theorem pts_at {w : World} {b : Nat} {L : List Pt} (h : IntsAt w b 0 (flat2 L)) {i : Nat} {x y : Int} (hi : L[i]? = some (x, y)) : w.cell? ⟨b, i * 2, none⟩ = some (.int .i64 x) ∧ w.cell? ⟨b, i * 2 + 1, none⟩ = some (.int .i64 y) := by
 have h1 := h _ _ (flat2_at hi).1
 have h2 := h _ _ (flat2_at hi).2
 rw [Nat.zero_add] at h1 h2
 exact ⟨h1, h2⟩
theorem bel_dq {B : Nat} {a w : World} (h : Below B a w) (n : Nat) : Below B a (w.drewN n) := ⟨h.os, h.tape, h.output, h.size, h.block⟩
theorem sameDn {a w : World} (h : Same a w) (n : Nat) : Same a (w.drewN n) := ⟨h.os, h.tape, h.output, h.heap⟩
set_option maxHeartbeats 1000000 in
theorem fstM_any (b cap n : Nat) (L : List Pt) (p1 p2 : Int) (j : Nat) (w : World) (HL : Hid (L.length = n)) (hn : n ≤ 4096) (hb : b < w.heap.size) (HI : Hid (IntsAt w b 0 (flat2 L))) (HF : Hid (Fst L (p1, p2) j)) :
  Calls Try.prog 29 #[.slice (some ⟨b, 0, none⟩) n cap, .agg #[.int .i64 p1, .int .i64 p2]] w fun e w' => e = .returned (.int .i64 (j : Int)) ∧ Below w.heap.size w w' := by
 have HB := hide (ba (Below.refl w.heap.size w) (.cells #[.int .i64 p1, .int .i64 p2] 30))
 have HV : Hid ((w.alloc (.cells #[.int .i64 p1, .int .i64 p2] 30)).cell? ⟨w.heap.size, 0, none⟩ = some (.int .i64 p1) ∧ (w.alloc (.cells #[.int .i64 p1, .int .i64 p2] 30)).cell? ⟨w.heap.size, 1, none⟩ = some (.int .i64 p2)) := hide ⟨by simp only [World.cell?]; rw [heap_alloc_new]; rfl, by simp only [World.cell?]; rw [heap_alloc_new]; rfl⟩
 have HI2 : Hid (IntsAt (w.alloc (.cells #[.int .i64 p1, .int .i64 p2] 30)) b 0 (flat2 L)) := hide ((zu HI).below (zu HB) hb)
 have hjl : j < n := by rw [← zu HL]; exact (zu HF).lt
 go_enter Try.func29, Try.ntmps29
 go_wp2_with fail
 generalize w.alloc (.cells #[.int .i64 p1, .int .i64 p2] 30) = W1 at *
 go_loopw [5] (fun z X => ∃ i : Nat, z = .int .i64 (i : Int) ∧ i ≤ j ∧ Same W1 X) (fun z _ => n - (intOf z).toNat)
 case atStart => exact ⟨0, rfl, Nat.zero_le _, Same.refl _⟩
 case round =>
  obtain ⟨i, rfl, hi, hs⟩ := hrel
  have HS := hide hs
  have i1 : (i : Int) < (n : Int) := by omega
  have i0 : (0 : Int) ≤ (i : Int) := Int.natCast_nonneg _
  have iz : decide ((i : Int) < (n : Int)) = true := decide_eq_true i1
  obtain ⟨⟨x, y⟩, hx⟩ : ∃ q, L[i]? = some q := ⟨_, List.getElem?_eq_getElem (by rw [zu HL]; omega)⟩
  obtain ⟨c0, c1⟩ := pts_at (zu HI2) hx
  obtain ⟨v0, v1⟩ := zu HV
  rw [← hs.cell] at c0 c1 v0 v1
  by_cases h : i = j
  ·subst h
   have he : (x, y) = (p1, p2) := by
    have h1 := (zu HF).at'
    rw [hx] at h1
    exact Option.some.inj h1
   have hq : ∀ X, (binOp .eql 30 (.agg #[.int .i64 x, .int .i64 y]) (.agg #[.int .i64 p1, .int .i64 p2])).run Try.prog X = .ok (.bool true) X := fun X => by rw [eq30, decide_eq_true he]
   have HBS : Hid (Below W1.heap.size W1 wr) := hide hs.bel
   clear hs hx he
   go_wp2_with fail
   go_quiet (fail)
   go_wp2_with fail
   go_ret
   exact ⟨rfl, bel_dq (bc (zu HB) (zu HBS)) _⟩
  ·have he : (x, y) ≠ (p1, p2) := fun e => (zu HF).no i (by omega) (by rw [hx, e])
   have hq : ∀ X, (binOp .eql 30 (.agg #[.int .i64 x, .int .i64 y]) (.agg #[.int .i64 p1, .int .i64 p2])).run Try.prog X = .ok (.bool false) X := fun X => by rw [eq30, decide_eq_false he]
   have hij : i + 1 ≤ j := by omega
   clear hs hx he
   go_wp2_with fail
   go_quiet (fail)
   go_wp2_with fail
   go_roundw
   case rel => exact ⟨i + 1, by simp, hij, sameDn (zu HS) _⟩
   case measure => simp only [intOf]; omega
set_option maxHeartbeats 1000000 in
theorem idxP_any (b cap n : Nat) (L : List Pt) (p1 p2 : Int) (j : Nat) (w : World) (HL : Hid (L.length = n)) (hn : n ≤ 4096) (hb : b < w.heap.size) (HI : Hid (IntsAt w b 0 (flat2 L))) (HF : Hid (Fst L (p1, p2) j)) :
  Calls Try.prog 53 #[.slice (some ⟨b, 0, none⟩) n cap, .agg #[.int .i64 p1, .int .i64 p2]] w fun e w' => e = .returned (.int .i64 (j : Int)) ∧ Below w.heap.size w w' := by
 have HB := hide (ba (Below.refl w.heap.size w) (.cells #[.int .i64 p1, .int .i64 p2] 30))
 have HV : Hid ((w.alloc (.cells #[.int .i64 p1, .int .i64 p2] 30)).cell? ⟨w.heap.size, 0, none⟩ = some (.int .i64 p1) ∧ (w.alloc (.cells #[.int .i64 p1, .int .i64 p2] 30)).cell? ⟨w.heap.size, 1, none⟩ = some (.int .i64 p2)) := hide ⟨by simp only [World.cell?]; rw [heap_alloc_new]; rfl, by simp only [World.cell?]; rw [heap_alloc_new]; rfl⟩
 have HI2 : Hid (IntsAt (w.alloc (.cells #[.int .i64 p1, .int .i64 p2] 30)) b 0 (flat2 L)) := hide ((zu HI).below (zu HB) hb)
 have hjl : j < n := by rw [← zu HL]; exact (zu HF).lt
 go_enter Try.func53, Try.ntmps53
 go_wp2_with fail
 generalize w.alloc (.cells #[.int .i64 p1, .int .i64 p2] 30) = W1 at *
 go_loopw [8] (fun z X => ∃ i : Nat, z = .int .i64 (i : Int) ∧ i ≤ j ∧ Same W1 X) (fun z _ => n - (intOf z).toNat)
 case atStart => exact ⟨0, rfl, Nat.zero_le _, Same.refl _⟩
 case round =>
  obtain ⟨i, rfl, hi, hs⟩ := hrel
  have HS := hide hs
  have i1 : (i : Int) < (n : Int) := by omega
  have i0 : (0 : Int) ≤ (i : Int) := Int.natCast_nonneg _
  have iz : decide ((i : Int) < (n : Int)) = true := decide_eq_true i1
  obtain ⟨⟨x, y⟩, hx⟩ : ∃ q, L[i]? = some q := ⟨_, List.getElem?_eq_getElem (by rw [zu HL]; omega)⟩
  obtain ⟨c0, c1⟩ := pts_at (zu HI2) hx
  obtain ⟨v0, v1⟩ := zu HV
  rw [← hs.cell] at c0 c1 v0 v1
  by_cases h : i = j
  ·subst h
   have he : (p1, p2) = (x, y) := by
    have h1 := (zu HF).at'
    rw [hx] at h1
    exact (Option.some.inj h1).symm
   have hq : ∀ X, (binOp .eql 30 (.agg #[.int .i64 p1, .int .i64 p2]) (.agg #[.int .i64 x, .int .i64 y])).run Try.prog X = .ok (.bool true) X := fun X => by rw [eq30, decide_eq_true he]
   have HBS : Hid (Below W1.heap.size W1 wr) := hide hs.bel
   clear hs hx he
   go_wp2_with fail
   go_quiet (fail)
   go_wp2_with fail
   go_ret
   exact ⟨rfl, bel_dq (bc (zu HB) (zu HBS)) _⟩
  ·have he : (p1, p2) ≠ (x, y) := fun e => (zu HF).no i (by omega) (by rw [hx, ← e])
   have hq : ∀ X, (binOp .eql 30 (.agg #[.int .i64 p1, .int .i64 p2]) (.agg #[.int .i64 x, .int .i64 y])).run Try.prog X = .ok (.bool false) X := fun X => by rw [eq30, decide_eq_false he]
   have hij : i + 1 ≤ j := by omega
   clear hs hx he
   go_wp2_with fail
   go_quiet (fail)
   go_wp2_with fail
   go_roundw
   case rel => exact ⟨i + 1, by simp, hij, sameDn (zu HS) _⟩
   case measure => simp only [intOf]; omega
theorem wr64 {x : Int} (h1 : -9223372036854775808 ≤ x) (h2 : x ≤ 9223372036854775807) : IntKind.i64.wrap x = x := Go.IntWalk.i64_in _ ⟨by omega, by omega⟩
theorem sqM_any (a1 a2 b1 b2 : Int) (w : World) (ha : -200 ≤ a1 ∧ a1 ≤ 200 ∧ -200 ≤ a2 ∧ a2 ≤ 200) (hb : -200 ≤ b1 ∧ b1 ≤ 200 ∧ -200 ≤ b2 ∧ b2 ≤ 200) :
  Calls Try.prog 30 #[.agg #[.int .i64 a1, .int .i64 a2], .agg #[.int .i64 b1, .int .i64 b2]] w fun e w' => e = .returned (.int .i64 (sqd (a1, a2) (b1, b2))) ∧ Below w.heap.size w w' := by
 have h1 := mulB (x := a1 - b1) (y := a1 - b1) (a := 400) (b := 400) (by omega) (by omega) (by omega) (by omega)
 have h2 := mulB (x := a2 - b2) (y := a2 - b2) (a := 400) (b := 400) (by omega) (by omega) (by omega) (by omega)
 have HE : Hid (sqd (a1, a2) (b1, b2) = (a1 - b1) * (a1 - b1) + (a2 - b2) * (a2 - b2)) := hide rfl
 have w1 : IntKind.i64.wrap (a1 - b1) = a1 - b1 := wr64 (by omega) (by omega)
 have w2 : IntKind.i64.wrap (a2 - b2) = a2 - b2 := wr64 (by omega) (by omega)
 have w3 : IntKind.i64.wrap ((a1 - b1) * (a1 - b1)) = (a1 - b1) * (a1 - b1) := wr64 (by omega) (by omega)
 have w4 : IntKind.i64.wrap ((a2 - b2) * (a2 - b2)) = (a2 - b2) * (a2 - b2) := wr64 (by omega) (by omega)
 have w5 : IntKind.i64.wrap ((a1 - b1) * (a1 - b1) + (a2 - b2) * (a2 - b2)) = (a1 - b1) * (a1 - b1) + (a2 - b2) * (a2 - b2) := wr64 (by omega) (by omega)
 go_enter Try.func30, Try.ntmps30
 go_wp2_with fail
 go_ret
 exact ⟨ret_int (zu HE).symm, ba (ba (Below.refl _ _) _) _⟩
theorem aloP_any (a1 a2 b1 b2 : Int) (w : World) (ha : -400 ≤ a1 ∧ a1 ≤ 400 ∧ -400 ≤ a2 ∧ a2 ≤ 400) (hb : -400 ≤ b1 ∧ b1 ≤ 400 ∧ -400 ≤ b2 ∧ b2 ≤ 400) :
  Calls Try.prog 54 #[.agg #[.int .i64 a1, .int .i64 a2], .agg #[.int .i64 b1, .int .i64 b2]] w fun e w' => e = .returned (.int .i64 (a1 * b1 + a2 * b2)) ∧ Below w.heap.size w w' := by
 have h1 := mulB (x := a1) (y := b1) (a := 400) (b := 400) (by omega) (by omega) (by omega) (by omega)
 have h2 := mulB (x := a2) (y := b2) (a := 400) (b := 400) (by omega) (by omega) (by omega) (by omega)
 have w3 : IntKind.i64.wrap (a1 * b1) = a1 * b1 := wr64 (by omega) (by omega)
 have w4 : IntKind.i64.wrap (a2 * b2) = a2 * b2 := wr64 (by omega) (by omega)
 have w5 : IntKind.i64.wrap (a1 * b1 + a2 * b2) = a1 * b1 + a2 * b2 := wr64 (by omega) (by omega)
 go_enter Try.func54, Try.ntmps54
 go_wp2_with fail
 go_ret
 exact ⟨rfl, ba (ba (Below.refl _ _) _) _⟩
def zeros (m : Nat) : List Int := List.replicate m 0
theorem made_zeros (k m : Nat) (hk : 0 < k) : madeCells (Array.replicate k (.int .i64 0)) m = ((zeros m).map (Value.int .i64)).toArray := by
 apply Array.ext
 ·simp [madeCells, zeros]
 ·intro i h1 h2
  have hi : i < m := by simpa [madeCells] using h1
  have hm : i % k < k := Nat.mod_lt _ hk
  simp [madeCells, zeros, hm]
theorem make_ints {P : Program} (t e k bytes n : Nat) (ht : P.underlying t = some (.slice e)) (z : Value) (hz : z.cells = Array.replicate k (.int .i64 0)) (hk : 0 < k)
  (hi : (P.info? e).map (fun i => (i.zero, i.size, i.bytes)) = some (some z, k, bytes)) (hb : bytes * n ≤ 281474976710656) (hn : n ≤ 9223372036854775807) (W : World) :
  (Instr.makeSlice t (.int .i64 (n : Int)) (.int .i64 (n : Int))).run P W = .ok (.slice (some ⟨W.heap.size, 0, none⟩) n n) (W.alloc (.cells ((zeros (n * k)).map (Value.int .i64)).toArray e)) := by
 cases hx : P.info? e with
 | none => rw [hx] at hi; simp at hi
 | some i =>
  rw [hx] at hi
  simp only [Option.map_some, Option.some.injEq, Prod.mk.injEq] at hi
  obtain ⟨h0, h1, h2⟩ := hi
  have hb' : (i.bytes : Int) * (n : Int) ≤ 281474976710656 := by
   have h3 : ((bytes * n : Nat) : Int) ≤ 281474976710656 := by omega
   rw [h2]
   rwa [Int.natCast_mul] at h3
  have := run_make (P := P) W t e i z ht hx h0 .i64 .i64 n n (by omega) (by omega) hb' (by omega)
  rw [Int.toNat_natCast, h1, hz, made_zeros k _ hk] at this
  exact this
theorem iblk_new (W : World) (t : Nat) (L : List Int) : iblk (W.alloc (.cells (L.map (Value.int .i64)).toArray t)) W.heap.size t L := by
 show (W.heap.push _)[W.heap.size]? = _
 rw [Array.getElem?_push_size]
theorem fill_step (L : List Int) (m : Nat) (h : m < L.length) (x : Int) (hx : L[m]? = some x) : (L.take m ++ zeros (L.length - m)).set m x = L.take (m + 1) ++ zeros (L.length - (m + 1)) := by
 have hl : (L.take m).length = m := by simp; omega
 rw [List.set_append, if_neg (by omega), hl, Nat.sub_self, List.take_add_one, hx]
 have e : L.length - m = (L.length - (m + 1)) + 1 := by omega
 rw [e, zeros, List.replicate_succ]
 simp [zeros]
theorem fill_at (L : List Int) (m f : Nat) (h : m + f < L.length) : (L.take m ++ zeros (L.length - m))[m + f]? = some 0 := by
 have hl : (L.take m).length = m := by simp; omega
 rw [List.getElem?_append_right (by omega), hl, show m + f - m = f by omega, zeros, List.getElem?_replicate, if_pos (by omega)]

def PtsAt (w : World) (b off : Nat) (L : List Pt) : Prop :=
 ∀ j (p : Pt), L[j]? = some p → w.cell? ⟨b, off + j * 2, none⟩ = some (.int .i64 p.1) ∧ w.cell? ⟨b, off + j * 2 + 1, none⟩ = some (.int .i64 p.2)
theorem PtsAt.below {w w' : World} {b off : Nat} {L : List Pt} (h : PtsAt w b off L) (hb : Below w.heap.size w w') : PtsAt w' b off L :=
  fun j p hj => ⟨keep1 hb (h j p hj).1, keep1 hb (h j p hj).2⟩
theorem PtsAt.bel {B : Nat} {w w' : World} {b off : Nat} {L : List Pt} (h : PtsAt w b off L) (hb : Below B w w') (hB : b < B) : PtsAt w' b off L :=
  fun j p hj => ⟨(hb.cell (p := ⟨b, _, none⟩) hB).trans (h j p hj).1, (hb.cell (p := ⟨b, _, none⟩) hB).trans (h j p hj).2⟩
theorem btw_any (x l h : Int) (w : World) : Calls Try.prog 32 #[.int .i64 x, .int .i64 l, .int .i64 h] w fun e w' => e = .returned (.bool (decide (l ≤ x) && decide (x ≤ h))) ∧ w' = w := by
 by_cases h1 : l ≤ x
 ·have b1 : decide (l ≤ x) = true := decide_eq_true h1
  go_enter Try.func32, Try.ntmps32
  go_wp2
  go_ret
  exact ⟨ret_bool (by simp [h1]), rfl⟩
 ·have b1 : decide (l ≤ x) = false := decide_eq_false h1
  go_enter Try.func32, Try.ntmps32
  go_wp2
  go_ret
  exact ⟨ret_bool (by simp [h1]), rfl⟩
theorem okP_ints (a1 a2 : Int) (w : World) :
  Calls Try.prog 76 #[.agg #[.int .i64 a1, .int .i64 a2]] w fun e w' => e = .returned (.bool (ptOk (a1, a2))) ∧ w' = w.alloc (.cells #[.int .i64 a1, .int .i64 a2] 30) := by
 have e : ptOk (a1, a2) = ((decide (-100000 ≤ a1) && decide (a1 ≤ 100000)) && (decide (-100000 ≤ a2) && decide (a2 ≤ 100000))) := by
  simp only [ptOk, ← Bool.decide_and]; congr 1; simp only [eq_iff_iff]; omega
 rw [e]
 by_cases hx : (decide (-100000 ≤ a1) && decide (a1 ≤ 100000)) = true
 ·go_enter Try.func76, Try.ntmps76
  go_wp2_with fail
  refine (btw_any _ _ _ _).mono ?_
  rintro e w' ⟨rfl, rfl⟩
  rw [hx]
  go_wp2_with fail
  refine (btw_any _ _ _ _).mono ?_
  rintro e w' ⟨rfl, rfl⟩
  go_wp2_with fail
  go_ret
  exact ⟨ret_bool (by rw [hx]; simp), rfl⟩
 ·have hx' : (decide (-100000 ≤ a1) && decide (a1 ≤ 100000)) = false := by simpa using hx
  go_enter Try.func76, Try.ntmps76
  go_wp2_with fail
  refine (btw_any _ _ _ _).mono ?_
  rintro e w' ⟨rfl, rfl⟩
  rw [hx']
  go_wp2_with fail
  go_ret
  exact ⟨ret_bool (by first | rfl | (rw [hx']; rfl)), rfl⟩
theorem wrong_ints (a1 a2 : Int) (w : World) :
  Calls Try.prog 60 #[.agg #[.int .i64 a1, .int .i64 a2]] w fun e w' => e = .returned (.bool (!ptOk (a1, a2))) ∧ Below w.heap.size w w' := by
 have hc := fun W => okP_ints a1 a2 W
 generalize ptOk (a1, a2) = t at hc ⊢
 go_enter Try.func60, Try.ntmps60
 go_wp2_with fail
 refine (hc _).mono ?_
 rintro e w' ⟨rfl, rfl⟩
 go_wp2_with fail
 go_ret
 exact ⟨rfl, ba (ba (Below.refl _ _) _) _⟩
abbrev Sg := Pt × Pt
def sides (L : List Pt) : List Sg := (List.range L.length).map fun i => (ptAt L i, ptAt L ((i + 1) % L.length))
theorem tmod_nat (i n : Nat) : ((i : Int) + 1).tmod (n : Int) = (((i + 1) % n : Nat) : Int) := by
 have : ((i : Int) + 1) = ((i + 1 : Nat) : Int) := by omega
 rw [this, Int.tmod_eq_emod_of_nonneg (by omega)]
 rfl
def flatG (S : List Sg) : List Int := S.flatMap fun s => [s.1.1, s.1.2, s.2.1, s.2.2]
theorem flatG_len (S : List Sg) : (flatG S).length = S.length * 4 := by
 induction S with
 | nil => rfl
 | cons x L ih => simp only [flatG, List.flatMap_cons, List.length_append, List.length_cons, List.length_nil] at ih ⊢; omega
theorem flatG_at (S : List Sg) : ∀ (i : Nat) (s : Sg), S[i]? = some s → (flatG S)[i * 4]? = some s.1.1 ∧ (flatG S)[i * 4 + 1]? = some s.1.2 ∧ (flatG S)[i * 4 + 2]? = some s.2.1 ∧ (flatG S)[i * 4 + 3]? = some s.2.2 := by
 induction S with
 | nil => intro i s h; simp at h
 | cons x L ih =>
  intro i s h
  have e : flatG (x :: L) = x.1.1 :: x.1.2 :: x.2.1 :: x.2.2 :: flatG L := rfl
  cases i with
  | zero => simp at h; subst h; rw [e]; simp
  | succ i =>
   have := ih i s (by simpa using h)
   rw [e, show (i + 1) * 4 = i * 4 + 1 + 1 + 1 + 1 by omega]
   simpa using this
theorem sides_len (L : List Pt) : (sides L).length = L.length := by simp [sides]
theorem sides_at (L : List Pt) (i : Nat) (h : i < L.length) : (sides L)[i]? = some (ptAt L i, ptAt L ((i + 1) % L.length)) := by
 simp [sides, h]
theorem seg_info : (Try.prog.info? 54).map (fun i => (i.zero, i.size, i.bytes)) = some (some (.agg #[.int .i64 0, .int .i64 0, .int .i64 0, .int .i64 0]), 4, 32) := by kernel_rfl
set_option maxRecDepth 100000 in
set_option maxHeartbeats 2000000 in
theorem sidesOf_any (b off cap n : Nat) (L : List Pt) (w : World) (HN : Hid (L.length = n)) (hn : n ≤ 400) (hb : b < w.heap.size) (hc : Hid (PtsAt w b off L)) :
  Calls Try.prog 23 #[.slice (some ⟨b, off, none⟩) n cap] w fun e w' => (∃ g, e = .returned (.slice (some ⟨g, 0, none⟩) n n) ∧ w.heap.size ≤ g ∧ iblk w' g 54 (flatG (sides L))) ∧ Below w.heap.size w w' := by
 have HF : Hid ((flatG (sides L)).length = n * 4) := hide (by rw [flatG_len, sides_len, zu HN])
 have HA : Hid (∀ i, i < n → (flatG (sides L))[i * 4]? = some (ptAt L i).1 ∧ (flatG (sides L))[i * 4 + 1]? = some (ptAt L i).2 ∧ (flatG (sides L))[i * 4 + 2]? = some (ptAt L ((i + 1) % n)).1 ∧ (flatG (sides L))[i * 4 + 3]? = some (ptAt L ((i + 1) % n)).2) := hide fun i hi => by
  have h1 := flatG_at (sides L) i _ (sides_at L i (by rw [zu HN]; exact hi))
  rw [zu HN] at h1
  exact h1
 generalize flatG (sides L) = F at *
 have hmk := fun W => make_ints (P := Try.prog) 56 54 4 32 n Try.underlying56 (.agg #[.int .i64 0, .int .i64 0, .int .i64 0, .int .i64 0]) (by rfl) (by omega) seg_info (by omega) (by omega) W
 generalize hzz : zeros (n * 4) = Z at hmk
 have HZ := hide hzz
 have HBB := hide hb
 clear hzz hb
 go_enter Try.func23, Try.ntmps23
 go_wp2_with fail
 have HG := hide (iblk_new w 54 Z)
 have HB0 := hide (ba (Below.refl w.heap.size w) (.cells (Z.map (Value.int .i64)).toArray 54))
 clear hmk
 go_loopw [11] (fun s W => ∃ i : Nat, s = .int .i64 (i : Int) ∧ i ≤ n ∧ iblk W w.heap.size 54 (F.take (i * 4) ++ zeros (F.length - i * 4)) ∧ Below w.heap.size w W) (fun s _ => n - (intOf s).toNat)
 case atStart =>
  refine ⟨0, rfl, Nat.zero_le _, ?_, zu HB0⟩
  have e : F.take (0 * 4) ++ zeros (F.length - 0 * 4) = Z := by rw [zu HF, ← zu HZ]; simp
  rw [e]
  exact zu HG
 case round =>
  obtain ⟨i, rfl, hi, hb, hw⟩ := hrel
  have HB := hide hb
  have HW := hide hw
  clear hb hw HG HB0
  by_cases h : i < n
  ·have i1 : (i : Int) < (n : Int) := by omega
   have i0 : (0 : Int) ≤ (i : Int) := Int.natCast_nonneg _
   have iz : decide ((i : Int) < (n : Int)) = true := decide_eq_true i1
   have nz : ((n : Int) == 0) = false := by rw [beq_eq_false_iff_ne]; omega
   have nw : ¬ n = 0 := by omega
   have wi : IntKind.i64.wrap ((i : Int) + 1) = (i : Int) + 1 := wrap_i (by omega) (by omega)
   have mi' : (i + 1) % n < n := Nat.mod_lt _ (by omega)
   have ha := zu HA i h
   obtain ⟨m, hm⟩ : ∃ m : Nat, (i + 1) % n = m := ⟨_, rfl⟩
   rw [hm] at ha mi'
   have ei : ((i : Int) + 1).tmod (n : Int) = (m : Int) := by rw [tmod_nat, hm]
   have ei2 : ((i : Int) + 1) % (n : Int) = (m : Int) := by rw [← hm]; rfl
   have m0 : (0 : Int) ≤ (m : Int) := Int.natCast_nonneg _
   have m1 : (m : Int) < (n : Int) := by omega
   clear hm
   have pw := (zu hc).bel (zu HW) (zu HBB)
   obtain ⟨x0, x1⟩ := pw i _ (ptAt_some (L := L) (i := i) (by rw [zu HN]; omega))
   obtain ⟨x2, x3⟩ := pw m _ (ptAt_some (L := L) (i := m) (by rw [zu HN]; omega))
   obtain ⟨⟨p1, p2⟩, hp⟩ : ∃ p : Pt, ptAt L i = p := ⟨_, rfl⟩
   obtain ⟨⟨q1, q2⟩, hq⟩ : ∃ q : Pt, ptAt L m = q := ⟨_, rfl⟩
   rw [hp] at x0 x1
   rw [hq] at x2 x3
   rw [hp, hq] at ha
   dsimp only at x0 x1 x2 x3 ha
   have E := hide ha
   clear pw hp hq ha
   have BW : Hid (b < wr.heap.size) := hide (Nat.lt_of_lt_of_le (zu HBB) (zu HW).size)
   have lb := zu BW
   have lb2 := Nat.le_of_lt lb
   have j0 : i * 4 + 3 < F.length := by rw [zu HF]; omega
   have m0' : wr.cell? ⟨w.heap.size, i * 4, none⟩ = some (.int .i64 0) := (zu HB).cell (fill_at F (i * 4) 0 (by omega))
   have m1' : wr.cell? ⟨w.heap.size, i * 4 + 1, none⟩ = some (.int .i64 0) := (zu HB).cell (fill_at F (i * 4) 1 (by omega))
   have m2' : wr.cell? ⟨w.heap.size, i * 4 + 2, none⟩ = some (.int .i64 0) := (zu HB).cell (fill_at F (i * 4) 2 (by omega))
   have m3' : wr.cell? ⟨w.heap.size, i * 4 + 3, none⟩ = some (.int .i64 0) := (zu HB).cell (fill_at F (i * 4) 3 (by omega))
   have gl := (zu HB).lt
   have gn : wr.heap.size ≠ w.heap.size := by omega
   have gb : b ≠ w.heap.size := by have := zu HBB; omega
   have bn : wr.heap.size ≠ b := by omega
   have fz : ∀ o, wr.frozen? ⟨w.heap.size, o, none⟩ = false := (zu HB).frozen
   have J0 := hide j0
   clear j0
   go_wp2_with fail
   go_region_held3 (fun wx => wx.cell? ⟨wr.heap.size, 0, none⟩ = some (.int .i64 p1) ∧ wx.cell? ⟨wr.heap.size, 1, none⟩ = some (.int .i64 p2) ∧ wx.cell? ⟨b, off + m * 2, none⟩ = some (.int .i64 q1) ∧ wx.cell? ⟨b, off + m * 2 + 1, none⟩ = some (.int .i64 q2))
    (simp (maxDischargeDepth := 12) [go_sem, le1, lt1, *])
    (fail)
   all_goals
    go_wp2_with fail
    go_roundw
    case rel =>
     refine ⟨i + 1, by simp, h, ?_, ?_⟩
     ·have h1 := ((((zu HB).set (i * 4) p1).set (i * 4 + 1) p2).set (i * 4 + 2) q1).set (i * 4 + 3) q2
      have jj := zu J0
      rw [fill_step F (i * 4) (by omega) _ (zu E).1, fill_step F (i * 4 + 1) (by omega) _ (zu E).2.1, fill_step F (i * 4 + 2) (by omega) _ (zu E).2.2.1, fill_step F (i * 4 + 3) (by omega) _ (zu E).2.2.2] at h1
      rw [show (i + 1) * 4 = i * 4 + 4 by omega]
      exact h1.bel (Below.drew (ba (Below.refl _ _) _))
     ·exact Below.drew (ba (Below.setCell (Below.setCell (Below.setCell (Below.setCell (zu HW) (p := ⟨w.heap.size, _, none⟩) (Nat.le_refl _) _) (p := ⟨w.heap.size, _, none⟩) (Nat.le_refl _) _) (p := ⟨w.heap.size, _, none⟩) (Nat.le_refl _) _) (p := ⟨w.heap.size, _, none⟩) (Nat.le_refl _) _) _)
    case measure => simp only [intOf]; omega
  ·have i1 : ¬ (i : Int) < (n : Int) := by omega
   have iz : decide ((i : Int) < (n : Int)) = false := decide_eq_false i1
   have en : i = n := by omega
   subst en
   go_wp2_with fail
   go_ret
   refine ⟨⟨_, rfl, Nat.le_refl _, ?_⟩, zu HW⟩
   have h1 := zu HB
   rw [List.take_of_length_le (by rw [zu HF]; omega), show F.length - i * 4 = 0 by rw [zu HF]; omega] at h1
   simpa [zeros] using h1
end Go.Proofs.Ytdcecfgmfmpeeaa
