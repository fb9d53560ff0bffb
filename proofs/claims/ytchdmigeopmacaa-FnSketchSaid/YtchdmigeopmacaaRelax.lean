/-
  The program's closures that raise a coordinate and relax a span.
-/
import Derived.Test.YtchdmigeopmacaaSpansOf
import Derived.Test.YtchdmigeopmacaaLeast
import Derived.Test.YtchdmigeopmacaaInv
namespace Go.Proofs.Ytchdmigeopmacaa
open Go.ChangeShapes Go.WideShapes Go.ChangeAt Go.RowKit
set_option linter.unusedVariables false
set_option linter.unusedSimpArgs false

/-- all that was there is as it was, but for two blocks -/
structure Two (g h : Nat) (w w' : World) : Prop where
  os : w'.os = w.os
  tape : w'.tape = w.tape
  output : w'.output = w.output
  size : w.heap.size ≤ w'.heap.size
  block : ∀ k, k < w.heap.size → k ≠ g → k ≠ h → w'.heap[k]? = w.heap[k]?
theorem Two.refl (g h : Nat) (w : World) : Two g h w w := ⟨rfl, rfl, rfl, Nat.le_refl _, fun _ _ _ _ => rfl⟩
theorem Two.trans {g h : Nat} {a b c : World} (x : Two g h a b) (y : Two g h b c) : Two g h a c :=
  ⟨y.os.trans x.os, y.tape.trans x.tape, y.output.trans x.output, Nat.le_trans x.size y.size, fun k hk h1 h2 => (y.block k (Nat.lt_of_lt_of_le hk x.size) h1 h2).trans (x.block k hk h1 h2)⟩
theorem Two.of_bel {g h : Nat} {w w' : World} (hb : Below w.heap.size w w') : Two g h w w' := ⟨hb.os, hb.tape, hb.output, hb.size, fun k hk _ _ => hb.block k hk⟩
theorem Two.alloc {g h : Nat} {w w' : World} (x : Two g h w w') (o : Obj) : Two g h w (w'.alloc o) := x.trans (Two.of_bel (ba (Below.refl _ _) o))
theorem Two.drew {g h : Nat} {w w' : World} (x : Two g h w w') : Two g h w w'.drew := ⟨x.os, x.tape, x.output, x.size, x.block⟩
theorem Two.set1 {g h : Nat} {w w' : World} (x : Two g h w w') (o : Nat) (v : Value) : Two g h w (w'.setCell ⟨g, o, none⟩ v) :=
  x.trans ⟨rfl, rfl, rfl, by simp [World.setCell], fun k _ h1 _ => Below.heap_setCell _ _ _ _ h1⟩
theorem Two.set2 {g h : Nat} {w w' : World} (x : Two g h w w') (o : Nat) (v : Value) : Two g h w (w'.setCell ⟨h, o, none⟩ v) :=
  x.trans ⟨rfl, rfl, rfl, by simp [World.setCell], fun k _ _ h2 => Below.heap_setCell _ _ _ _ h2⟩
theorem Two.cell {g h : Nat} {w w' : World} (x : Two g h w w') {b o : Nat} {v : Value} (h1 : b ≠ g) (h2 : b ≠ h) (hc : w.cell? ⟨b, o, none⟩ = some v) : w'.cell? ⟨b, o, none⟩ = some v :=
  (World.cell?_of_block (w := w) (a := ⟨b, o, none⟩) (x.block b (cell_lt hc) h1 h2)).trans hc
theorem Two.bel {g h B : Nat} {a w w' : World} (hb : Below B a w) (x : Two g h w w') (h1 : B ≤ g) (h2 : B ≤ h) (hB : B ≤ w.heap.size) : Below B a w' :=
  hb.trans ⟨x.os, x.tape, x.output, x.size, fun k hk => x.block k (by omega) (by omega) (by omega)⟩

/-- a coordinate is raised -/
def rs (s : List Int × Bool) (c : Nat) (t : Int) : List Int × Bool := if gt s.1 c < t then (s.1.set c t, true) else s
theorem step_rs (s : List Int × Bool) (e : Edge) : step s e = rs s e.2.1 (gt s.1 e.1 + e.2.2) := rfl
/-- the block of one truth value -/
def bblk (w : World) (h : Nat) (f : Bool) : Prop := w.heap[h]? = some (.cells #[.bool f] 4)
theorem bblk.cell {w : World} {h : Nat} {f : Bool} (x : bblk w h f) : w.cell? ⟨h, 0, none⟩ = some (.bool f) := by
  simp only [World.cell?]; rw [x]; rfl
theorem bblk.frozen {w : World} {h : Nat} {f : Bool} (x : bblk w h f) : w.frozen? ⟨h, 0, none⟩ = false := by
  simp only [World.frozen?]; rw [x]; rfl
theorem bblk.set {w : World} {h : Nat} {f : Bool} (x : bblk w h f) (f' : Bool) : bblk (w.setCell ⟨h, 0, none⟩ (.bool f')) h f' := by
  show (w.heap.modify h _)[h]? = _
  rw [Array.getElem?_modify, if_pos rfl, x]
  rfl
theorem bblk.far {w w' : World} {h : Nat} {f : Bool} (x : bblk w h f) (e : w'.heap[h]? = w.heap[h]?) : bblk w' h f := e.trans x
theorem iblk.far {w w' : World} {g t : Nat} {L : List Int} (x : iblk w g t L) (e : w'.heap[g]? = w.heap[g]?) : iblk w' g t L := e.trans x

set_option maxHeartbeats 1000000 in
theorem raise_any (c n g ba_ br : Nat) (t : Int) (a : List Int) (f : Bool) (w : World) (hc : c < n) (hn : n ≤ 1000) (HL : Hid (a.length = n)) (h1 : ba_ ≠ g) (h2 : ba_ ≠ br) (h3 : g ≠ br)
    (k0 : w.cell? ⟨ba_, 0, none⟩ = some (.slice (some ⟨g, 0, none⟩) n n)) (HG : Hid (iblk w g 3 a)) (HF : Hid (bblk w br f)) :
    Calls Try.prog 46 #[.int .i64 (c : Int), .int .i64 t, .pointer (some ⟨ba_, 0, none⟩), .pointer (some ⟨br, 0, none⟩)] w fun e w' => e = .returned (.tuple #[]) ∧ iblk w' g 3 (rs (a, f) c t).1 ∧ bblk w' br (rs (a, f) c t).2 ∧ Two g br w w' := by
  have m1 : w.cell? ⟨g, c, none⟩ = some (.int .i64 (gt a c)) := (unhide HG).cell (gt_some (by rw [unhide HL]; exact hc))
  have c1 : (c : Int) < (n : Int) := by omega
  have c0 : (0 : Int) ≤ (c : Int) := Int.natCast_nonneg _
  have fz := (unhide HG).frozen
  have m2 := (unhide HF).cell
  have fz2 := (unhide HF).frozen
  by_cases hlt : gt a c < t
  · have g1 : decide (gt a c < t) = true := decide_eq_true hlt
    have HS : Hid (rs (a, f) c t = (a.set c t, true)) := hide (if_pos hlt)
    generalize gt a c = X at *
    clear hlt
    go_enter Try.func46, Try.ntmps46
    go_wp2_with fail
    rw [unhide HS]
    refine bodyPost_end (v := .tuple #[]) (by simp [results, Try.results46, go_sem]) rfl ⟨rfl, ?_, ?_, ((Two.refl _ _ _).set1 _ _).set2 _ _⟩
    · exact ((unhide HG).set c t).far (Below.heap_setCell _ _ _ _ h3)
    · exact ((unhide HF).far (Below.heap_setCell _ _ _ _ (Ne.symm h3))).set true
  · have g1 : decide (gt a c < t) = false := decide_eq_false hlt
    have HS : Hid (rs (a, f) c t = (a, f)) := hide (if_neg hlt)
    generalize gt a c = X at *
    clear hlt
    go_enter Try.func46, Try.ntmps46
    go_wp2_with fail
    rw [unhide HS]
    exact bodyPost_end (v := .tuple #[]) (by simp [results, Try.results46, go_sem]) rfl ⟨rfl, unhide HG, unhide HF, Two.refl _ _ _⟩

/-- a span as edges -/
def spE (s : Sp) : List Edge := if s.2.2.2 = true then [(s.1, s.2.1, s.2.2.1), (s.2.1, s.1, -s.2.2.1)] else [(s.1, s.2.1, s.2.2.1)]
theorem rs_len (s : List Int × Bool) (c : Nat) (t : Int) : (rs s c t).1.length = s.1.length := by unfold rs; split <;> simp
theorem rs_bd {n : Nat} {M : Int} {s : List Int × Bool} {c : Nat} {t : Int} (hl : s.1.length = n) (hc : c < n) (h : Bd M s.1) (ht : t ≤ M) : Bd M (rs s c t).1 := by
  intro i
  have hi := h i
  unfold rs
  split
  · have := (h c).1
    show 0 ≤ gt (s.1.set _ _) i ∧ gt (s.1.set _ _) i ≤ _
    rw [gt_set _ _ _ _ (by omega)]
    split <;> omega
  · exact hi

set_option maxHeartbeats 2000000 in
set_option maxRecDepth 100000 in
theorem relax_any (lo hi n g b9 ba_ br : Nat) (num M : Int) (just : Bool) (a : List Int) (f : Bool) (w : World) (hlo : lo < n) (hhi : hi < n) (hn : n ≤ 1000) (HL : Hid (a.length = n))
    (h1 : ba_ ≠ g) (h2 : ba_ ≠ br) (h3 : g ≠ br) (h4 : b9 ≠ g) (h5 : b9 ≠ br) (q1 : -100000 ≤ num) (q2 : num ≤ 100000) (HM : Hid (Bd M a)) (hM : M ≤ 1000000000000)
    (k0 : w.cell? ⟨ba_, 0, none⟩ = some (.slice (some ⟨g, 0, none⟩) n n)) (k9 : w.cell? ⟨b9, 0, none⟩ = some (.func (.func 46) #[] #[.pointer (some ⟨ba_, 0, none⟩), .pointer (some ⟨br, 0, none⟩)])) (HG : Hid (iblk w g 3 a)) (HF : Hid (bblk w br f)) :
    Calls Try.prog 47 #[.agg #[.int .i64 (lo : Int), .int .i64 (hi : Int), .int .i64 num, .bool just], .pointer (some ⟨b9, 0, none⟩), .pointer (some ⟨ba_, 0, none⟩)] w
      fun e w' => e = .returned (.tuple #[]) ∧ iblk w' g 3 (passF (spE (lo, hi, num, just)) (a, f)).1 ∧ bblk w' br (passF (spE (lo, hi, num, just)) (a, f)).2 ∧ Two g br w w' := by
  have lo1 : (lo : Int) < (n : Int) := by omega
  have lo0 : (0 : Int) ≤ (lo : Int) := Int.natCast_nonneg _
  have hi1 : (hi : Int) < (n : Int) := by omega
  have hi0 : (0 : Int) ≤ (hi : Int) := Int.natCast_nonneg _
  have m1 : w.cell? ⟨g, lo, none⟩ = some (.int .i64 (gt a lo)) := (unhide HG).cell (gt_some (by rw [unhide HL]; exact hlo))
  have bl := (unhide HM) lo
  have ltg := (unhide HG).lt
  have ltb : br < w.heap.size := cell_lt (unhide HF).cell
  have lta := cell_lt k0
  have lt9 := cell_lt k9
  have w1 : IntKind.i64.wrap (gt a lo + num) = gt a lo + num := wrap_i (by omega) (by omega)
  have HR1 := hide (fun W (hW : Below w.heap.size w W) => raise_any hi n g ba_ br (gt a lo + num) a f W hhi hn HL h1 h2 h3 (keep1 hW k0) (hide ((unhide HG).bel hW)) (hide ((unhide HF).far (hW.block br ltb))))
  have HP1 : Hid (rs (a, f) hi (gt a lo + num) = passF [(lo, hi, num)] (a, f)) := hide rfl
  have HRL := hide (rs_len (a, f) hi (gt a lo + num))
  have HRB := hide (rs_bd (M := M + 100000) (t := gt a lo + num) (s := (a, f)) (unhide HL) hhi ((unhide HM).mono (by omega)) (by omega))
  generalize hA : rs (a, f) hi (gt a lo + num) = S1 at HR1 HP1 HRL HRB
  obtain ⟨a1, f1⟩ := S1
  simp only at HR1
  generalize gt a lo = X at *
  cases just with
  | false =>
    have HS : Hid (passF (spE (lo, hi, num, false)) (a, f) = (a1, f1)) := hide (by rw [unhide HP1]; rfl)
    clear hA
    go_enter Try.func47, Try.ntmps47
    go_upto_region 1 with fail
    refine wp_region_inv (fun L A W => ∃ (u0 u1 u2 u3 u4 u5 u6 u7 u8 u9 u10 u11 : Bool), L = #[u0, u1, u2, u3, u4, u5, u6, u7, u8, u9, u10, u11] ∧ A = ({ tmps := #[.agg #[.int .i64 (lo : Int), .int .i64 (hi : Int), .int .i64 (num), .bool false], .pointer (some ⟨b9, 0, none⟩), .pointer (some ⟨ba_, 0, none⟩), .pointer (some ⟨w.heap.size, 0, none⟩), (bif u0 then .func (.func 46) #[] #[.pointer (some ⟨ba_, 0, none⟩), .pointer (some ⟨br, 0, none⟩)] else undef), (bif u1 then .pointer (some ⟨w.heap.size, 1, none⟩) else undef), (bif u2 then .int .i64 (hi : Int) else undef), (bif u3 then .slice (some ⟨g, 0, none⟩) n n else undef), (bif u4 then .pointer (some ⟨w.heap.size, 0, none⟩) else undef), (bif u5 then .int .i64 (lo : Int) else undef), (bif u6 then .pointer (some ⟨g, lo, none⟩) else undef), (bif u7 then .int .i64 (X) else undef), (bif u8 then .pointer (some ⟨w.heap.size, 2, none⟩) else undef), (bif u9 then .int .i64 (num) else undef), (bif u10 then .int .i64 (X + num) else undef), (bif u11 then .tuple #[] else undef), undef, undef, undef, undef, undef, undef, undef, undef, undef, undef, undef, undef, undef, undef], defers := [] } : Act) ∧ ((u2 = true → u1 = true) ∧ (u5 = true → u4 = true) ∧ (u6 = true → u3 = true ∧ u5 = true) ∧ (u7 = true → u6 = true) ∧ (u9 = true → u8 = true) ∧ (u10 = true → u7 = true ∧ u9 = true) ∧ (u11 = true → u0 = true ∧ u2 = true ∧ u10 = true)) ∧ (u11 = false → W = (w.alloc (.cells #[.int .i64 (lo : Int), .int .i64 (hi : Int), .int .i64 (num), .bool false] 58)).drew) ∧ (u11 = true → iblk W g 3 a1 ∧ bblk W br f1 ∧ Two g br w W ∧ W.cell? ⟨w.heap.size, 0, none⟩ = some (.int .i64 (lo : Int)) ∧ W.cell? ⟨w.heap.size, 1, none⟩ = some (.int .i64 (hi : Int)) ∧ W.cell? ⟨w.heap.size, 2, none⟩ = some (.int .i64 (num)) ∧ W.cell? ⟨w.heap.size, 3, none⟩ = some (.bool false))) (by kernel_rfl) (by kernel_rfl) ?h0 ?hstep ?hend
    case h0 =>
      exact ⟨false, false, false, false, false, false, false, false, false, false, false, false, rfl, rfl, ⟨(fun h => nomatch h), (fun h => nomatch h), (fun h => nomatch h), (fun h => nomatch h), (fun h => nomatch h), (fun h => nomatch h), (fun h => nomatch h)⟩, fun _ => rfl, (fun h => nomatch h)⟩
    case hstep =>
      rintro L A W ⟨u0, u1, u2, u3, u4, u5, u6, u7, u8, u9, u10, u11, rfl, rfl, ⟨c2, c5, c6, c7, c9, c10, c11⟩, hW0, hP⟩
      refine ⟨?_, ?_, ?_, ?_, ?_, ?_, ?_, ?_, ?_, ?_, ?_, ?_, trivial⟩
      · intro h0 hd K hK
        have z : u0 = false := h0
        have zl : u11 = false := by
          cases u11 with
          | false => rfl
          | true => exact nomatch z.symm.trans ((c11 rfl).1)
        have C2 := hide c2; have C5 := hide c5; have C6 := hide c6; have C7 := hide c7; have C9 := hide c9; have C10 := hide c10; have C11 := hide c11; clear c2 c5 c6 c7 c9 c10 c11
        subst zl
        subst z
        have hW := hW0 rfl
        clear h0 hd hW0 hP
        subst hW
        rw [if_pos (by rfl)]
        go_simp
        exact unhide hK _ _ ⟨true, u1, u2, u3, u4, u5, u6, u7, u8, u9, u10, false, rfl, rfl, ⟨(unhide C2), (unhide C5), (unhide C6), (unhide C7), (unhide C9), (unhide C10), (fun h => ⟨rfl, (unhide C11 h).2.1, (unhide C11 h).2.2⟩)⟩, fun _ => rfl, (fun h => nomatch h)⟩
      · intro h0 hd K hK
        have z : u1 = false := h0
        have zl : u11 = false := by
          cases u11 with
          | false => rfl
          | true => exact nomatch z.symm.trans ((c2 (c11 rfl).2.1))
        have C2 := hide c2; have C5 := hide c5; have C6 := hide c6; have C7 := hide c7; have C9 := hide c9; have C10 := hide c10; have C11 := hide c11; clear c2 c5 c6 c7 c9 c10 c11
        subst zl
        subst z
        have hW := hW0 rfl
        clear h0 hd hW0 hP
        subst hW
        rw [if_pos (by rfl)]
        go_simp
        exact unhide hK _ _ ⟨u0, true, u2, u3, u4, u5, u6, u7, u8, u9, u10, false, rfl, rfl, ⟨(fun h => rfl), (unhide C5), (unhide C6), (unhide C7), (unhide C9), (unhide C10), (unhide C11)⟩, fun _ => rfl, (fun h => nomatch h)⟩
      · intro h0 hd K hK
        have z : u2 = false := h0
        have zl : u11 = false := by
          cases u11 with
          | false => rfl
          | true => exact nomatch z.symm.trans ((c11 rfl).2.1)
        have zd : u1 = true := by
          simp [Region.binds] at hd
          simp [hd]
        have C2 := hide c2; have C5 := hide c5; have C6 := hide c6; have C7 := hide c7; have C9 := hide c9; have C10 := hide c10; have C11 := hide c11; clear c2 c5 c6 c7 c9 c10 c11
        obtain ⟨rfl⟩ := zd
        subst zl
        subst z
        have hW := hW0 rfl
        clear h0 hd hW0 hP
        subst hW
        rw [if_pos (by rfl)]
        go_simp
        exact unhide hK _ _ ⟨u0, true, true, u3, u4, u5, u6, u7, u8, u9, u10, false, rfl, rfl, ⟨(fun _ => rfl), (unhide C5), (unhide C6), (unhide C7), (unhide C9), (unhide C10), (fun h => ⟨(unhide C11 h).1, rfl, (unhide C11 h).2.2⟩)⟩, fun _ => rfl, (fun h => nomatch h)⟩
      · intro h0 hd K hK
        have z : u3 = false := h0
        have zl : u11 = false := by
          cases u11 with
          | false => rfl
          | true => exact nomatch z.symm.trans ((c6 (c7 (c10 (c11 rfl).2.2).1)).1)
        have C2 := hide c2; have C5 := hide c5; have C6 := hide c6; have C7 := hide c7; have C9 := hide c9; have C10 := hide c10; have C11 := hide c11; clear c2 c5 c6 c7 c9 c10 c11
        subst zl
        subst z
        have hW := hW0 rfl
        clear h0 hd hW0 hP
        subst hW
        rw [if_pos (by rfl)]
        go_simp
        exact unhide hK _ _ ⟨u0, u1, u2, true, u4, u5, u6, u7, u8, u9, u10, false, rfl, rfl, ⟨(unhide C2), (unhide C5), (fun h => ⟨rfl, (unhide C6 h).2⟩), (unhide C7), (unhide C9), (unhide C10), (unhide C11)⟩, fun _ => rfl, (fun h => nomatch h)⟩
      · intro h0 hd K hK
        have z : u4 = false := h0
        have zl : u11 = false := by
          cases u11 with
          | false => rfl
          | true => exact nomatch z.symm.trans ((c5 (c6 (c7 (c10 (c11 rfl).2.2).1)).2))
        have C2 := hide c2; have C5 := hide c5; have C6 := hide c6; have C7 := hide c7; have C9 := hide c9; have C10 := hide c10; have C11 := hide c11; clear c2 c5 c6 c7 c9 c10 c11
        subst zl
        subst z
        have hW := hW0 rfl
        clear h0 hd hW0 hP
        subst hW
        rw [if_pos (by rfl)]
        go_simp
        exact unhide hK _ _ ⟨u0, u1, u2, u3, true, u5, u6, u7, u8, u9, u10, false, rfl, rfl, ⟨(unhide C2), (fun h => rfl), (unhide C6), (unhide C7), (unhide C9), (unhide C10), (unhide C11)⟩, fun _ => rfl, (fun h => nomatch h)⟩
      · intro h0 hd K hK
        have z : u5 = false := h0
        have zl : u11 = false := by
          cases u11 with
          | false => rfl
          | true => exact nomatch z.symm.trans ((c6 (c7 (c10 (c11 rfl).2.2).1)).2)
        have zd : u4 = true := by
          simp [Region.binds] at hd
          simp [hd]
        have C2 := hide c2; have C5 := hide c5; have C6 := hide c6; have C7 := hide c7; have C9 := hide c9; have C10 := hide c10; have C11 := hide c11; clear c2 c5 c6 c7 c9 c10 c11
        obtain ⟨rfl⟩ := zd
        subst zl
        subst z
        have hW := hW0 rfl
        clear h0 hd hW0 hP
        subst hW
        rw [if_pos (by rfl)]
        go_simp
        exact unhide hK _ _ ⟨u0, u1, u2, u3, true, true, u6, u7, u8, u9, u10, false, rfl, rfl, ⟨(unhide C2), (fun _ => rfl), (fun h => ⟨(unhide C6 h).1, rfl⟩), (unhide C7), (unhide C9), (unhide C10), (unhide C11)⟩, fun _ => rfl, (fun h => nomatch h)⟩
      · intro h0 hd K hK
        have z : u6 = false := h0
        have zl : u11 = false := by
          cases u11 with
          | false => rfl
          | true => exact nomatch z.symm.trans ((c7 (c10 (c11 rfl).2.2).1))
        have zd : u3 = true ∧ u5 = true := by
          simp [Region.binds] at hd
          simp [hd]
        have C2 := hide c2; have C5 := hide c5; have C6 := hide c6; have C7 := hide c7; have C9 := hide c9; have C10 := hide c10; have C11 := hide c11; clear c2 c5 c6 c7 c9 c10 c11
        obtain ⟨rfl, rfl⟩ := zd
        subst zl
        subst z
        have hW := hW0 rfl
        clear h0 hd hW0 hP
        subst hW
        rw [if_pos (by rfl)]
        go_simp
        exact unhide hK _ _ ⟨u0, u1, u2, true, u4, true, true, u7, u8, u9, u10, false, rfl, rfl, ⟨(unhide C2), (unhide C5), (fun _ => ⟨rfl, rfl⟩), (fun h => rfl), (unhide C9), (unhide C10), (unhide C11)⟩, fun _ => rfl, (fun h => nomatch h)⟩
      · intro h0 hd K hK
        have z : u7 = false := h0
        have zl : u11 = false := by
          cases u11 with
          | false => rfl
          | true => exact nomatch z.symm.trans ((c10 (c11 rfl).2.2).1)
        have zd : u6 = true := by
          simp [Region.binds] at hd
          simp [hd]
        have C2 := hide c2; have C5 := hide c5; have C6 := hide c6; have C7 := hide c7; have C9 := hide c9; have C10 := hide c10; have C11 := hide c11; clear c2 c5 c6 c7 c9 c10 c11
        obtain ⟨rfl⟩ := zd
        subst zl
        subst z
        have hW := hW0 rfl
        clear h0 hd hW0 hP
        subst hW
        rw [if_pos (by rfl)]
        go_simp
        exact unhide hK _ _ ⟨u0, u1, u2, u3, u4, u5, true, true, u8, u9, u10, false, rfl, rfl, ⟨(unhide C2), (unhide C5), (unhide C6), (fun _ => rfl), (unhide C9), (fun h => ⟨rfl, (unhide C10 h).2⟩), (unhide C11)⟩, fun _ => rfl, (fun h => nomatch h)⟩
      · intro h0 hd K hK
        have z : u8 = false := h0
        have zl : u11 = false := by
          cases u11 with
          | false => rfl
          | true => exact nomatch z.symm.trans ((c9 (c10 (c11 rfl).2.2).2))
        have C2 := hide c2; have C5 := hide c5; have C6 := hide c6; have C7 := hide c7; have C9 := hide c9; have C10 := hide c10; have C11 := hide c11; clear c2 c5 c6 c7 c9 c10 c11
        subst zl
        subst z
        have hW := hW0 rfl
        clear h0 hd hW0 hP
        subst hW
        rw [if_pos (by rfl)]
        go_simp
        exact unhide hK _ _ ⟨u0, u1, u2, u3, u4, u5, u6, u7, true, u9, u10, false, rfl, rfl, ⟨(unhide C2), (unhide C5), (unhide C6), (unhide C7), (fun h => rfl), (unhide C10), (unhide C11)⟩, fun _ => rfl, (fun h => nomatch h)⟩
      · intro h0 hd K hK
        have z : u9 = false := h0
        have zl : u11 = false := by
          cases u11 with
          | false => rfl
          | true => exact nomatch z.symm.trans ((c10 (c11 rfl).2.2).2)
        have zd : u8 = true := by
          simp [Region.binds] at hd
          simp [hd]
        have C2 := hide c2; have C5 := hide c5; have C6 := hide c6; have C7 := hide c7; have C9 := hide c9; have C10 := hide c10; have C11 := hide c11; clear c2 c5 c6 c7 c9 c10 c11
        obtain ⟨rfl⟩ := zd
        subst zl
        subst z
        have hW := hW0 rfl
        clear h0 hd hW0 hP
        subst hW
        rw [if_pos (by rfl)]
        go_simp
        exact unhide hK _ _ ⟨u0, u1, u2, u3, u4, u5, u6, u7, true, true, u10, false, rfl, rfl, ⟨(unhide C2), (unhide C5), (unhide C6), (unhide C7), (fun _ => rfl), (fun h => ⟨(unhide C10 h).1, rfl⟩), (unhide C11)⟩, fun _ => rfl, (fun h => nomatch h)⟩
      · intro h0 hd K hK
        have z : u10 = false := h0
        have zl : u11 = false := by
          cases u11 with
          | false => rfl
          | true => exact nomatch z.symm.trans ((c11 rfl).2.2)
        have zd : u7 = true ∧ u9 = true := by
          simp [Region.binds] at hd
          simp [hd]
        have C2 := hide c2; have C5 := hide c5; have C6 := hide c6; have C7 := hide c7; have C9 := hide c9; have C10 := hide c10; have C11 := hide c11; clear c2 c5 c6 c7 c9 c10 c11
        obtain ⟨rfl, rfl⟩ := zd
        subst zl
        subst z
        have hW := hW0 rfl
        clear h0 hd hW0 hP
        subst hW
        rw [if_pos (by rfl)]
        go_simp
        exact unhide hK _ _ ⟨u0, u1, u2, u3, u4, u5, u6, true, u8, true, true, false, rfl, rfl, ⟨(unhide C2), (unhide C5), (unhide C6), (unhide C7), (unhide C9), (fun _ => ⟨rfl, rfl⟩), (fun h => ⟨(unhide C11 h).1, (unhide C11 h).2.1, rfl⟩)⟩, fun _ => rfl, (fun h => nomatch h)⟩
      · intro h0 hd K hK
        have z : u11 = false := h0
        have zd : u0 = true ∧ u2 = true ∧ u10 = true := by
          simp [Region.binds] at hd
          simp [hd]
        have C2 := hide c2; have C5 := hide c5; have C6 := hide c6; have C7 := hide c7; have C9 := hide c9; have C10 := hide c10; have C11 := hide c11; clear c2 c5 c6 c7 c9 c10 c11
        obtain ⟨rfl, rfl, rfl⟩ := zd
        subst z
        have hW := hW0 rfl
        clear h0 hd hW0 hP
        subst hW
        rw [if_pos (by rfl)]
        go_simp
        refine (unhide HR1 _ (Below.drew (ba (Below.refl _ _) _))).mono ?_
        rintro e w' ⟨rfl, hg', hf', ht'⟩
        have y0 : w'.cell? ⟨w.heap.size, 0, none⟩ = some (.int .i64 (lo : Int)) := ht'.cell (by omega) (by omega) (by simp [go_sem])
        have y1 : w'.cell? ⟨w.heap.size, 1, none⟩ = some (.int .i64 (hi : Int)) := ht'.cell (by omega) (by omega) (by simp [go_sem])
        have y2 : w'.cell? ⟨w.heap.size, 2, none⟩ = some (.int .i64 (num)) := ht'.cell (by omega) (by omega) (by simp [go_sem])
        have y3 : w'.cell? ⟨w.heap.size, 3, none⟩ = some (.bool false) := ht'.cell (by omega) (by omega) (by simp [go_sem])
        have ht2 : Two g br w w' := Two.trans ((Two.refl _ _ _).alloc _).drew ht'
        go_simp
        exact unhide hK _ _ ⟨true, u1, true, u3, u4, u5, u6, u7, u8, u9, true, true, rfl, rfl, ⟨(unhide C2), (unhide C5), (unhide C6), (unhide C7), (unhide C9), (unhide C10), (fun _ => ⟨rfl, rfl, rfl⟩)⟩, (fun h => nomatch h), fun _ => ⟨hg', hf', ht2, y0, y1, y2, y3⟩⟩
    case hend =>
      rintro L A W ⟨u0, u1, u2, u3, u4, u5, u6, u7, u8, u9, u10, u11, rfl, rfl, ⟨c2, c5, c6, c7, c9, c10, c11⟩, hW0, hP⟩ hL
      have hl : u0 = true ∧ u1 = true ∧ u2 = true ∧ u3 = true ∧ u4 = true ∧ u5 = true ∧ u6 = true ∧ u7 = true ∧ u8 = true ∧ u9 = true ∧ u10 = true ∧ u11 = true := by
        have h2 := congrArg Array.toList hL
        simpa [List.replicate] using h2
      obtain ⟨rfl, rfl, rfl, rfl, rfl, rfl, rfl, rfl, rfl, rfl, rfl, rfl⟩ := hl
      have hp := hP rfl
      clear hL hW0 hP c2 c5 c6 c7 c9 c10 c11
      simp only [cond_true]
      obtain ⟨hg', hf', ht2, y0, y1, y2, y3⟩ := hp
      have HG' := hide hg'
      have HF' := hide hf'
      have HT' := hide ht2
      clear hg' hf' ht2
      go_wp2_with fail
      rw [unhide HS]
      exact bodyPost_end (v := .tuple #[]) (by simp [results, Try.results47, go_sem]) rfl ⟨rfl, unhide HG', unhide HF', unhide HT'⟩
  | true =>
    have HS : Hid (passF (spE (lo, hi, num, true)) (a, f) = rs (a1, f1) lo (gt a1 hi - num)) := hide (by show passF [(hi, lo, -num)] (passF [(lo, hi, num)] (a, f)) = _; rw [← unhide HP1]; rfl)
    clear hA
    go_enter Try.func47, Try.ntmps47
    go_upto_region 1 with fail
    refine wp_region_inv (fun L A W => ∃ (u0 u1 u2 u3 u4 u5 u6 u7 u8 u9 u10 u11 : Bool), L = #[u0, u1, u2, u3, u4, u5, u6, u7, u8, u9, u10, u11] ∧ A = ({ tmps := #[.agg #[.int .i64 (lo : Int), .int .i64 (hi : Int), .int .i64 (num), .bool true], .pointer (some ⟨b9, 0, none⟩), .pointer (some ⟨ba_, 0, none⟩), .pointer (some ⟨w.heap.size, 0, none⟩), (bif u0 then .func (.func 46) #[] #[.pointer (some ⟨ba_, 0, none⟩), .pointer (some ⟨br, 0, none⟩)] else undef), (bif u1 then .pointer (some ⟨w.heap.size, 1, none⟩) else undef), (bif u2 then .int .i64 (hi : Int) else undef), (bif u3 then .slice (some ⟨g, 0, none⟩) n n else undef), (bif u4 then .pointer (some ⟨w.heap.size, 0, none⟩) else undef), (bif u5 then .int .i64 (lo : Int) else undef), (bif u6 then .pointer (some ⟨g, lo, none⟩) else undef), (bif u7 then .int .i64 (X) else undef), (bif u8 then .pointer (some ⟨w.heap.size, 2, none⟩) else undef), (bif u9 then .int .i64 (num) else undef), (bif u10 then .int .i64 (X + num) else undef), (bif u11 then .tuple #[] else undef), undef, undef, undef, undef, undef, undef, undef, undef, undef, undef, undef, undef, undef, undef], defers := [] } : Act) ∧ ((u2 = true → u1 = true) ∧ (u5 = true → u4 = true) ∧ (u6 = true → u3 = true ∧ u5 = true) ∧ (u7 = true → u6 = true) ∧ (u9 = true → u8 = true) ∧ (u10 = true → u7 = true ∧ u9 = true) ∧ (u11 = true → u0 = true ∧ u2 = true ∧ u10 = true)) ∧ (u11 = false → W = (w.alloc (.cells #[.int .i64 (lo : Int), .int .i64 (hi : Int), .int .i64 (num), .bool true] 58)).drew) ∧ (u11 = true → iblk W g 3 a1 ∧ bblk W br f1 ∧ Two g br w W ∧ W.cell? ⟨w.heap.size, 0, none⟩ = some (.int .i64 (lo : Int)) ∧ W.cell? ⟨w.heap.size, 1, none⟩ = some (.int .i64 (hi : Int)) ∧ W.cell? ⟨w.heap.size, 2, none⟩ = some (.int .i64 (num)) ∧ W.cell? ⟨w.heap.size, 3, none⟩ = some (.bool true))) (by kernel_rfl) (by kernel_rfl) ?h0 ?hstep ?hend
    case h0 =>
      exact ⟨false, false, false, false, false, false, false, false, false, false, false, false, rfl, rfl, ⟨(fun h => nomatch h), (fun h => nomatch h), (fun h => nomatch h), (fun h => nomatch h), (fun h => nomatch h), (fun h => nomatch h), (fun h => nomatch h)⟩, fun _ => rfl, (fun h => nomatch h)⟩
    case hstep =>
      rintro L A W ⟨u0, u1, u2, u3, u4, u5, u6, u7, u8, u9, u10, u11, rfl, rfl, ⟨c2, c5, c6, c7, c9, c10, c11⟩, hW0, hP⟩
      refine ⟨?_, ?_, ?_, ?_, ?_, ?_, ?_, ?_, ?_, ?_, ?_, ?_, trivial⟩
      · intro h0 hd K hK
        have z : u0 = false := h0
        have zl : u11 = false := by
          cases u11 with
          | false => rfl
          | true => exact nomatch z.symm.trans ((c11 rfl).1)
        have C2 := hide c2; have C5 := hide c5; have C6 := hide c6; have C7 := hide c7; have C9 := hide c9; have C10 := hide c10; have C11 := hide c11; clear c2 c5 c6 c7 c9 c10 c11
        subst zl
        subst z
        have hW := hW0 rfl
        clear h0 hd hW0 hP
        subst hW
        rw [if_pos (by rfl)]
        go_simp
        exact unhide hK _ _ ⟨true, u1, u2, u3, u4, u5, u6, u7, u8, u9, u10, false, rfl, rfl, ⟨(unhide C2), (unhide C5), (unhide C6), (unhide C7), (unhide C9), (unhide C10), (fun h => ⟨rfl, (unhide C11 h).2.1, (unhide C11 h).2.2⟩)⟩, fun _ => rfl, (fun h => nomatch h)⟩
      · intro h0 hd K hK
        have z : u1 = false := h0
        have zl : u11 = false := by
          cases u11 with
          | false => rfl
          | true => exact nomatch z.symm.trans ((c2 (c11 rfl).2.1))
        have C2 := hide c2; have C5 := hide c5; have C6 := hide c6; have C7 := hide c7; have C9 := hide c9; have C10 := hide c10; have C11 := hide c11; clear c2 c5 c6 c7 c9 c10 c11
        subst zl
        subst z
        have hW := hW0 rfl
        clear h0 hd hW0 hP
        subst hW
        rw [if_pos (by rfl)]
        go_simp
        exact unhide hK _ _ ⟨u0, true, u2, u3, u4, u5, u6, u7, u8, u9, u10, false, rfl, rfl, ⟨(fun h => rfl), (unhide C5), (unhide C6), (unhide C7), (unhide C9), (unhide C10), (unhide C11)⟩, fun _ => rfl, (fun h => nomatch h)⟩
      · intro h0 hd K hK
        have z : u2 = false := h0
        have zl : u11 = false := by
          cases u11 with
          | false => rfl
          | true => exact nomatch z.symm.trans ((c11 rfl).2.1)
        have zd : u1 = true := by
          simp [Region.binds] at hd
          simp [hd]
        have C2 := hide c2; have C5 := hide c5; have C6 := hide c6; have C7 := hide c7; have C9 := hide c9; have C10 := hide c10; have C11 := hide c11; clear c2 c5 c6 c7 c9 c10 c11
        obtain ⟨rfl⟩ := zd
        subst zl
        subst z
        have hW := hW0 rfl
        clear h0 hd hW0 hP
        subst hW
        rw [if_pos (by rfl)]
        go_simp
        exact unhide hK _ _ ⟨u0, true, true, u3, u4, u5, u6, u7, u8, u9, u10, false, rfl, rfl, ⟨(fun _ => rfl), (unhide C5), (unhide C6), (unhide C7), (unhide C9), (unhide C10), (fun h => ⟨(unhide C11 h).1, rfl, (unhide C11 h).2.2⟩)⟩, fun _ => rfl, (fun h => nomatch h)⟩
      · intro h0 hd K hK
        have z : u3 = false := h0
        have zl : u11 = false := by
          cases u11 with
          | false => rfl
          | true => exact nomatch z.symm.trans ((c6 (c7 (c10 (c11 rfl).2.2).1)).1)
        have C2 := hide c2; have C5 := hide c5; have C6 := hide c6; have C7 := hide c7; have C9 := hide c9; have C10 := hide c10; have C11 := hide c11; clear c2 c5 c6 c7 c9 c10 c11
        subst zl
        subst z
        have hW := hW0 rfl
        clear h0 hd hW0 hP
        subst hW
        rw [if_pos (by rfl)]
        go_simp
        exact unhide hK _ _ ⟨u0, u1, u2, true, u4, u5, u6, u7, u8, u9, u10, false, rfl, rfl, ⟨(unhide C2), (unhide C5), (fun h => ⟨rfl, (unhide C6 h).2⟩), (unhide C7), (unhide C9), (unhide C10), (unhide C11)⟩, fun _ => rfl, (fun h => nomatch h)⟩
      · intro h0 hd K hK
        have z : u4 = false := h0
        have zl : u11 = false := by
          cases u11 with
          | false => rfl
          | true => exact nomatch z.symm.trans ((c5 (c6 (c7 (c10 (c11 rfl).2.2).1)).2))
        have C2 := hide c2; have C5 := hide c5; have C6 := hide c6; have C7 := hide c7; have C9 := hide c9; have C10 := hide c10; have C11 := hide c11; clear c2 c5 c6 c7 c9 c10 c11
        subst zl
        subst z
        have hW := hW0 rfl
        clear h0 hd hW0 hP
        subst hW
        rw [if_pos (by rfl)]
        go_simp
        exact unhide hK _ _ ⟨u0, u1, u2, u3, true, u5, u6, u7, u8, u9, u10, false, rfl, rfl, ⟨(unhide C2), (fun h => rfl), (unhide C6), (unhide C7), (unhide C9), (unhide C10), (unhide C11)⟩, fun _ => rfl, (fun h => nomatch h)⟩
      · intro h0 hd K hK
        have z : u5 = false := h0
        have zl : u11 = false := by
          cases u11 with
          | false => rfl
          | true => exact nomatch z.symm.trans ((c6 (c7 (c10 (c11 rfl).2.2).1)).2)
        have zd : u4 = true := by
          simp [Region.binds] at hd
          simp [hd]
        have C2 := hide c2; have C5 := hide c5; have C6 := hide c6; have C7 := hide c7; have C9 := hide c9; have C10 := hide c10; have C11 := hide c11; clear c2 c5 c6 c7 c9 c10 c11
        obtain ⟨rfl⟩ := zd
        subst zl
        subst z
        have hW := hW0 rfl
        clear h0 hd hW0 hP
        subst hW
        rw [if_pos (by rfl)]
        go_simp
        exact unhide hK _ _ ⟨u0, u1, u2, u3, true, true, u6, u7, u8, u9, u10, false, rfl, rfl, ⟨(unhide C2), (fun _ => rfl), (fun h => ⟨(unhide C6 h).1, rfl⟩), (unhide C7), (unhide C9), (unhide C10), (unhide C11)⟩, fun _ => rfl, (fun h => nomatch h)⟩
      · intro h0 hd K hK
        have z : u6 = false := h0
        have zl : u11 = false := by
          cases u11 with
          | false => rfl
          | true => exact nomatch z.symm.trans ((c7 (c10 (c11 rfl).2.2).1))
        have zd : u3 = true ∧ u5 = true := by
          simp [Region.binds] at hd
          simp [hd]
        have C2 := hide c2; have C5 := hide c5; have C6 := hide c6; have C7 := hide c7; have C9 := hide c9; have C10 := hide c10; have C11 := hide c11; clear c2 c5 c6 c7 c9 c10 c11
        obtain ⟨rfl, rfl⟩ := zd
        subst zl
        subst z
        have hW := hW0 rfl
        clear h0 hd hW0 hP
        subst hW
        rw [if_pos (by rfl)]
        go_simp
        exact unhide hK _ _ ⟨u0, u1, u2, true, u4, true, true, u7, u8, u9, u10, false, rfl, rfl, ⟨(unhide C2), (unhide C5), (fun _ => ⟨rfl, rfl⟩), (fun h => rfl), (unhide C9), (unhide C10), (unhide C11)⟩, fun _ => rfl, (fun h => nomatch h)⟩
      · intro h0 hd K hK
        have z : u7 = false := h0
        have zl : u11 = false := by
          cases u11 with
          | false => rfl
          | true => exact nomatch z.symm.trans ((c10 (c11 rfl).2.2).1)
        have zd : u6 = true := by
          simp [Region.binds] at hd
          simp [hd]
        have C2 := hide c2; have C5 := hide c5; have C6 := hide c6; have C7 := hide c7; have C9 := hide c9; have C10 := hide c10; have C11 := hide c11; clear c2 c5 c6 c7 c9 c10 c11
        obtain ⟨rfl⟩ := zd
        subst zl
        subst z
        have hW := hW0 rfl
        clear h0 hd hW0 hP
        subst hW
        rw [if_pos (by rfl)]
        go_simp
        exact unhide hK _ _ ⟨u0, u1, u2, u3, u4, u5, true, true, u8, u9, u10, false, rfl, rfl, ⟨(unhide C2), (unhide C5), (unhide C6), (fun _ => rfl), (unhide C9), (fun h => ⟨rfl, (unhide C10 h).2⟩), (unhide C11)⟩, fun _ => rfl, (fun h => nomatch h)⟩
      · intro h0 hd K hK
        have z : u8 = false := h0
        have zl : u11 = false := by
          cases u11 with
          | false => rfl
          | true => exact nomatch z.symm.trans ((c9 (c10 (c11 rfl).2.2).2))
        have C2 := hide c2; have C5 := hide c5; have C6 := hide c6; have C7 := hide c7; have C9 := hide c9; have C10 := hide c10; have C11 := hide c11; clear c2 c5 c6 c7 c9 c10 c11
        subst zl
        subst z
        have hW := hW0 rfl
        clear h0 hd hW0 hP
        subst hW
        rw [if_pos (by rfl)]
        go_simp
        exact unhide hK _ _ ⟨u0, u1, u2, u3, u4, u5, u6, u7, true, u9, u10, false, rfl, rfl, ⟨(unhide C2), (unhide C5), (unhide C6), (unhide C7), (fun h => rfl), (unhide C10), (unhide C11)⟩, fun _ => rfl, (fun h => nomatch h)⟩
      · intro h0 hd K hK
        have z : u9 = false := h0
        have zl : u11 = false := by
          cases u11 with
          | false => rfl
          | true => exact nomatch z.symm.trans ((c10 (c11 rfl).2.2).2)
        have zd : u8 = true := by
          simp [Region.binds] at hd
          simp [hd]
        have C2 := hide c2; have C5 := hide c5; have C6 := hide c6; have C7 := hide c7; have C9 := hide c9; have C10 := hide c10; have C11 := hide c11; clear c2 c5 c6 c7 c9 c10 c11
        obtain ⟨rfl⟩ := zd
        subst zl
        subst z
        have hW := hW0 rfl
        clear h0 hd hW0 hP
        subst hW
        rw [if_pos (by rfl)]
        go_simp
        exact unhide hK _ _ ⟨u0, u1, u2, u3, u4, u5, u6, u7, true, true, u10, false, rfl, rfl, ⟨(unhide C2), (unhide C5), (unhide C6), (unhide C7), (fun _ => rfl), (fun h => ⟨(unhide C10 h).1, rfl⟩), (unhide C11)⟩, fun _ => rfl, (fun h => nomatch h)⟩
      · intro h0 hd K hK
        have z : u10 = false := h0
        have zl : u11 = false := by
          cases u11 with
          | false => rfl
          | true => exact nomatch z.symm.trans ((c11 rfl).2.2)
        have zd : u7 = true ∧ u9 = true := by
          simp [Region.binds] at hd
          simp [hd]
        have C2 := hide c2; have C5 := hide c5; have C6 := hide c6; have C7 := hide c7; have C9 := hide c9; have C10 := hide c10; have C11 := hide c11; clear c2 c5 c6 c7 c9 c10 c11
        obtain ⟨rfl, rfl⟩ := zd
        subst zl
        subst z
        have hW := hW0 rfl
        clear h0 hd hW0 hP
        subst hW
        rw [if_pos (by rfl)]
        go_simp
        exact unhide hK _ _ ⟨u0, u1, u2, u3, u4, u5, u6, true, u8, true, true, false, rfl, rfl, ⟨(unhide C2), (unhide C5), (unhide C6), (unhide C7), (unhide C9), (fun _ => ⟨rfl, rfl⟩), (fun h => ⟨(unhide C11 h).1, (unhide C11 h).2.1, rfl⟩)⟩, fun _ => rfl, (fun h => nomatch h)⟩
      · intro h0 hd K hK
        have z : u11 = false := h0
        have zd : u0 = true ∧ u2 = true ∧ u10 = true := by
          simp [Region.binds] at hd
          simp [hd]
        have C2 := hide c2; have C5 := hide c5; have C6 := hide c6; have C7 := hide c7; have C9 := hide c9; have C10 := hide c10; have C11 := hide c11; clear c2 c5 c6 c7 c9 c10 c11
        obtain ⟨rfl, rfl, rfl⟩ := zd
        subst z
        have hW := hW0 rfl
        clear h0 hd hW0 hP
        subst hW
        rw [if_pos (by rfl)]
        go_simp
        refine (unhide HR1 _ (Below.drew (ba (Below.refl _ _) _))).mono ?_
        rintro e w' ⟨rfl, hg', hf', ht'⟩
        have y0 : w'.cell? ⟨w.heap.size, 0, none⟩ = some (.int .i64 (lo : Int)) := ht'.cell (by omega) (by omega) (by simp [go_sem])
        have y1 : w'.cell? ⟨w.heap.size, 1, none⟩ = some (.int .i64 (hi : Int)) := ht'.cell (by omega) (by omega) (by simp [go_sem])
        have y2 : w'.cell? ⟨w.heap.size, 2, none⟩ = some (.int .i64 (num)) := ht'.cell (by omega) (by omega) (by simp [go_sem])
        have y3 : w'.cell? ⟨w.heap.size, 3, none⟩ = some (.bool true) := ht'.cell (by omega) (by omega) (by simp [go_sem])
        have ht2 : Two g br w w' := Two.trans ((Two.refl _ _ _).alloc _).drew ht'
        go_simp
        exact unhide hK _ _ ⟨true, u1, true, u3, u4, u5, u6, u7, u8, u9, true, true, rfl, rfl, ⟨(unhide C2), (unhide C5), (unhide C6), (unhide C7), (unhide C9), (unhide C10), (fun _ => ⟨rfl, rfl, rfl⟩)⟩, (fun h => nomatch h), fun _ => ⟨hg', hf', ht2, y0, y1, y2, y3⟩⟩
    case hend =>
      rintro L A W ⟨u0, u1, u2, u3, u4, u5, u6, u7, u8, u9, u10, u11, rfl, rfl, ⟨c2, c5, c6, c7, c9, c10, c11⟩, hW0, hP⟩ hL
      have hl : u0 = true ∧ u1 = true ∧ u2 = true ∧ u3 = true ∧ u4 = true ∧ u5 = true ∧ u6 = true ∧ u7 = true ∧ u8 = true ∧ u9 = true ∧ u10 = true ∧ u11 = true := by
        have h2 := congrArg Array.toList hL
        simpa [List.replicate] using h2
      obtain ⟨rfl, rfl, rfl, rfl, rfl, rfl, rfl, rfl, rfl, rfl, rfl, rfl⟩ := hl
      have hp := hP rfl
      clear hL hW0 hP c2 c5 c6 c7 c9 c10 c11
      simp only [cond_true]
      obtain ⟨hg', hf', ht2, y0, y1, y2, y3⟩ := hp
      have HG' := hide hg'
      have HF' := hide hf'
      have HT' := hide ht2
      clear hg' hf' ht2
      have b1 := (unhide HRB) hi
      have l1 := unhide HRL
      simp only at b1 l1
      have m2 : W.cell? ⟨g, hi, none⟩ = some (.int .i64 (gt a1 hi)) := (unhide HG').cell (gt_some (by rw [l1, unhide HL]; exact hhi))
      have w2 : IntKind.i64.wrap (gt a1 hi - num) = gt a1 hi - num := wrap_i (by omega) (by omega)
      have HR2 := hide (raise_any lo n g ba_ br (gt a1 hi - num) a1 f1 W.drew hlo hn (hide (l1.trans (unhide HL))) h1 h2 h3 ((unhide HT').cell h1 h2 k0) HG' HF')
      have z0 := (unhide HT').cell h1 h2 k0
      have z9 := (unhide HT').cell h4 h5 k9
      generalize hS2 : rs (a1, f1) lo (gt a1 hi - num) = S2 at HR2
      obtain ⟨a2, f2⟩ := S2
      simp only at HR2
      have HS2 := hide hS2
      clear hS2 b1 l1
      generalize gt a1 hi = Y at *
      go_upto_region 3 with fail
      refine wp_region_inv (fun L A V => ∃ (u0 u1 u2 u3 u4 u5 u6 u7 u8 u9 u10 u11 : Bool), L = #[u0, u1, u2, u3, u4, u5, u6, u7, u8, u9, u10, u11] ∧ A = ({ tmps := #[.agg #[.int .i64 (lo : Int), .int .i64 (hi : Int), .int .i64 (num), .bool true], .pointer (some ⟨b9, 0, none⟩), .pointer (some ⟨ba_, 0, none⟩), .pointer (some ⟨w.heap.size, 0, none⟩), .func (.func 46) #[] #[.pointer (some ⟨ba_, 0, none⟩), .pointer (some ⟨br, 0, none⟩)], .pointer (some ⟨w.heap.size, 1, none⟩), .int .i64 (hi : Int), .slice (some ⟨g, 0, none⟩) n n, .pointer (some ⟨w.heap.size, 0, none⟩), .int .i64 (lo : Int), .pointer (some ⟨g, lo, none⟩), .int .i64 (X), .pointer (some ⟨w.heap.size, 2, none⟩), .int .i64 (num), .int .i64 (X + num), .tuple #[], .pointer (some ⟨w.heap.size, 3, none⟩), .bool true, (bif u0 then .func (.func 46) #[] #[.pointer (some ⟨ba_, 0, none⟩), .pointer (some ⟨br, 0, none⟩)] else undef), (bif u1 then .pointer (some ⟨w.heap.size, 0, none⟩) else undef), (bif u2 then .int .i64 (lo : Int) else undef), (bif u3 then .slice (some ⟨g, 0, none⟩) n n else undef), (bif u4 then .pointer (some ⟨w.heap.size, 1, none⟩) else undef), (bif u5 then .int .i64 (hi : Int) else undef), (bif u6 then .pointer (some ⟨g, hi, none⟩) else undef), (bif u7 then .int .i64 (Y) else undef), (bif u8 then .pointer (some ⟨w.heap.size, 2, none⟩) else undef), (bif u9 then .int .i64 (num) else undef), (bif u10 then .int .i64 (Y - num) else undef), (bif u11 then .tuple #[] else undef)], defers := [] } : Act) ∧ ((u2 = true → u1 = true) ∧ (u5 = true → u4 = true) ∧ (u6 = true → u3 = true ∧ u5 = true) ∧ (u7 = true → u6 = true) ∧ (u9 = true → u8 = true) ∧ (u10 = true → u7 = true ∧ u9 = true) ∧ (u11 = true → u0 = true ∧ u2 = true ∧ u10 = true)) ∧ (u11 = false → V = W.drew) ∧ (u11 = true → iblk V g 3 a2 ∧ bblk V br f2 ∧ Two g br w V)) (by kernel_rfl) (by kernel_rfl) ?h0 ?hstep ?hend
      case h0 =>
        exact ⟨false, false, false, false, false, false, false, false, false, false, false, false, rfl, rfl, ⟨(fun h => nomatch h), (fun h => nomatch h), (fun h => nomatch h), (fun h => nomatch h), (fun h => nomatch h), (fun h => nomatch h), (fun h => nomatch h)⟩, fun _ => rfl, (fun h => nomatch h)⟩
      case hstep =>
        rintro L A V ⟨u0, u1, u2, u3, u4, u5, u6, u7, u8, u9, u10, u11, rfl, rfl, ⟨c2, c5, c6, c7, c9, c10, c11⟩, hW0, hP⟩
        refine ⟨?_, ?_, ?_, ?_, ?_, ?_, ?_, ?_, ?_, ?_, ?_, ?_, trivial⟩
        · intro h0 hd K hK
          have z : u0 = false := h0
          have zl : u11 = false := by
            cases u11 with
            | false => rfl
            | true => exact nomatch z.symm.trans ((c11 rfl).1)
          have C2 := hide c2; have C5 := hide c5; have C6 := hide c6; have C7 := hide c7; have C9 := hide c9; have C10 := hide c10; have C11 := hide c11; clear c2 c5 c6 c7 c9 c10 c11
          subst zl
          subst z
          have hW := hW0 rfl
          clear h0 hd hW0 hP
          subst hW
          rw [if_pos (by rfl)]
          go_simp
          exact unhide hK _ _ ⟨true, u1, u2, u3, u4, u5, u6, u7, u8, u9, u10, false, rfl, rfl, ⟨(unhide C2), (unhide C5), (unhide C6), (unhide C7), (unhide C9), (unhide C10), (fun h => ⟨rfl, (unhide C11 h).2.1, (unhide C11 h).2.2⟩)⟩, fun _ => rfl, (fun h => nomatch h)⟩
        · intro h0 hd K hK
          have z : u1 = false := h0
          have zl : u11 = false := by
            cases u11 with
            | false => rfl
            | true => exact nomatch z.symm.trans ((c2 (c11 rfl).2.1))
          have C2 := hide c2; have C5 := hide c5; have C6 := hide c6; have C7 := hide c7; have C9 := hide c9; have C10 := hide c10; have C11 := hide c11; clear c2 c5 c6 c7 c9 c10 c11
          subst zl
          subst z
          have hW := hW0 rfl
          clear h0 hd hW0 hP
          subst hW
          rw [if_pos (by rfl)]
          go_simp
          exact unhide hK _ _ ⟨u0, true, u2, u3, u4, u5, u6, u7, u8, u9, u10, false, rfl, rfl, ⟨(fun h => rfl), (unhide C5), (unhide C6), (unhide C7), (unhide C9), (unhide C10), (unhide C11)⟩, fun _ => rfl, (fun h => nomatch h)⟩
        · intro h0 hd K hK
          have z : u2 = false := h0
          have zl : u11 = false := by
            cases u11 with
            | false => rfl
            | true => exact nomatch z.symm.trans ((c11 rfl).2.1)
          have zd : u1 = true := by
            simp [Region.binds] at hd
            simp [hd]
          have C2 := hide c2; have C5 := hide c5; have C6 := hide c6; have C7 := hide c7; have C9 := hide c9; have C10 := hide c10; have C11 := hide c11; clear c2 c5 c6 c7 c9 c10 c11
          obtain ⟨rfl⟩ := zd
          subst zl
          subst z
          have hW := hW0 rfl
          clear h0 hd hW0 hP
          subst hW
          rw [if_pos (by rfl)]
          go_simp
          exact unhide hK _ _ ⟨u0, true, true, u3, u4, u5, u6, u7, u8, u9, u10, false, rfl, rfl, ⟨(fun _ => rfl), (unhide C5), (unhide C6), (unhide C7), (unhide C9), (unhide C10), (fun h => ⟨(unhide C11 h).1, rfl, (unhide C11 h).2.2⟩)⟩, fun _ => rfl, (fun h => nomatch h)⟩
        · intro h0 hd K hK
          have z : u3 = false := h0
          have zl : u11 = false := by
            cases u11 with
            | false => rfl
            | true => exact nomatch z.symm.trans ((c6 (c7 (c10 (c11 rfl).2.2).1)).1)
          have C2 := hide c2; have C5 := hide c5; have C6 := hide c6; have C7 := hide c7; have C9 := hide c9; have C10 := hide c10; have C11 := hide c11; clear c2 c5 c6 c7 c9 c10 c11
          subst zl
          subst z
          have hW := hW0 rfl
          clear h0 hd hW0 hP
          subst hW
          rw [if_pos (by rfl)]
          go_simp
          exact unhide hK _ _ ⟨u0, u1, u2, true, u4, u5, u6, u7, u8, u9, u10, false, rfl, rfl, ⟨(unhide C2), (unhide C5), (fun h => ⟨rfl, (unhide C6 h).2⟩), (unhide C7), (unhide C9), (unhide C10), (unhide C11)⟩, fun _ => rfl, (fun h => nomatch h)⟩
        · intro h0 hd K hK
          have z : u4 = false := h0
          have zl : u11 = false := by
            cases u11 with
            | false => rfl
            | true => exact nomatch z.symm.trans ((c5 (c6 (c7 (c10 (c11 rfl).2.2).1)).2))
          have C2 := hide c2; have C5 := hide c5; have C6 := hide c6; have C7 := hide c7; have C9 := hide c9; have C10 := hide c10; have C11 := hide c11; clear c2 c5 c6 c7 c9 c10 c11
          subst zl
          subst z
          have hW := hW0 rfl
          clear h0 hd hW0 hP
          subst hW
          rw [if_pos (by rfl)]
          go_simp
          exact unhide hK _ _ ⟨u0, u1, u2, u3, true, u5, u6, u7, u8, u9, u10, false, rfl, rfl, ⟨(unhide C2), (fun h => rfl), (unhide C6), (unhide C7), (unhide C9), (unhide C10), (unhide C11)⟩, fun _ => rfl, (fun h => nomatch h)⟩
        · intro h0 hd K hK
          have z : u5 = false := h0
          have zl : u11 = false := by
            cases u11 with
            | false => rfl
            | true => exact nomatch z.symm.trans ((c6 (c7 (c10 (c11 rfl).2.2).1)).2)
          have zd : u4 = true := by
            simp [Region.binds] at hd
            simp [hd]
          have C2 := hide c2; have C5 := hide c5; have C6 := hide c6; have C7 := hide c7; have C9 := hide c9; have C10 := hide c10; have C11 := hide c11; clear c2 c5 c6 c7 c9 c10 c11
          obtain ⟨rfl⟩ := zd
          subst zl
          subst z
          have hW := hW0 rfl
          clear h0 hd hW0 hP
          subst hW
          rw [if_pos (by rfl)]
          go_simp
          exact unhide hK _ _ ⟨u0, u1, u2, u3, true, true, u6, u7, u8, u9, u10, false, rfl, rfl, ⟨(unhide C2), (fun _ => rfl), (fun h => ⟨(unhide C6 h).1, rfl⟩), (unhide C7), (unhide C9), (unhide C10), (unhide C11)⟩, fun _ => rfl, (fun h => nomatch h)⟩
        · intro h0 hd K hK
          have z : u6 = false := h0
          have zl : u11 = false := by
            cases u11 with
            | false => rfl
            | true => exact nomatch z.symm.trans ((c7 (c10 (c11 rfl).2.2).1))
          have zd : u3 = true ∧ u5 = true := by
            simp [Region.binds] at hd
            simp [hd]
          have C2 := hide c2; have C5 := hide c5; have C6 := hide c6; have C7 := hide c7; have C9 := hide c9; have C10 := hide c10; have C11 := hide c11; clear c2 c5 c6 c7 c9 c10 c11
          obtain ⟨rfl, rfl⟩ := zd
          subst zl
          subst z
          have hW := hW0 rfl
          clear h0 hd hW0 hP
          subst hW
          rw [if_pos (by rfl)]
          go_simp
          exact unhide hK _ _ ⟨u0, u1, u2, true, u4, true, true, u7, u8, u9, u10, false, rfl, rfl, ⟨(unhide C2), (unhide C5), (fun _ => ⟨rfl, rfl⟩), (fun h => rfl), (unhide C9), (unhide C10), (unhide C11)⟩, fun _ => rfl, (fun h => nomatch h)⟩
        · intro h0 hd K hK
          have z : u7 = false := h0
          have zl : u11 = false := by
            cases u11 with
            | false => rfl
            | true => exact nomatch z.symm.trans ((c10 (c11 rfl).2.2).1)
          have zd : u6 = true := by
            simp [Region.binds] at hd
            simp [hd]
          have C2 := hide c2; have C5 := hide c5; have C6 := hide c6; have C7 := hide c7; have C9 := hide c9; have C10 := hide c10; have C11 := hide c11; clear c2 c5 c6 c7 c9 c10 c11
          obtain ⟨rfl⟩ := zd
          subst zl
          subst z
          have hW := hW0 rfl
          clear h0 hd hW0 hP
          subst hW
          rw [if_pos (by rfl)]
          go_simp
          exact unhide hK _ _ ⟨u0, u1, u2, u3, u4, u5, true, true, u8, u9, u10, false, rfl, rfl, ⟨(unhide C2), (unhide C5), (unhide C6), (fun _ => rfl), (unhide C9), (fun h => ⟨rfl, (unhide C10 h).2⟩), (unhide C11)⟩, fun _ => rfl, (fun h => nomatch h)⟩
        · intro h0 hd K hK
          have z : u8 = false := h0
          have zl : u11 = false := by
            cases u11 with
            | false => rfl
            | true => exact nomatch z.symm.trans ((c9 (c10 (c11 rfl).2.2).2))
          have C2 := hide c2; have C5 := hide c5; have C6 := hide c6; have C7 := hide c7; have C9 := hide c9; have C10 := hide c10; have C11 := hide c11; clear c2 c5 c6 c7 c9 c10 c11
          subst zl
          subst z
          have hW := hW0 rfl
          clear h0 hd hW0 hP
          subst hW
          rw [if_pos (by rfl)]
          go_simp
          exact unhide hK _ _ ⟨u0, u1, u2, u3, u4, u5, u6, u7, true, u9, u10, false, rfl, rfl, ⟨(unhide C2), (unhide C5), (unhide C6), (unhide C7), (fun h => rfl), (unhide C10), (unhide C11)⟩, fun _ => rfl, (fun h => nomatch h)⟩
        · intro h0 hd K hK
          have z : u9 = false := h0
          have zl : u11 = false := by
            cases u11 with
            | false => rfl
            | true => exact nomatch z.symm.trans ((c10 (c11 rfl).2.2).2)
          have zd : u8 = true := by
            simp [Region.binds] at hd
            simp [hd]
          have C2 := hide c2; have C5 := hide c5; have C6 := hide c6; have C7 := hide c7; have C9 := hide c9; have C10 := hide c10; have C11 := hide c11; clear c2 c5 c6 c7 c9 c10 c11
          obtain ⟨rfl⟩ := zd
          subst zl
          subst z
          have hW := hW0 rfl
          clear h0 hd hW0 hP
          subst hW
          rw [if_pos (by rfl)]
          go_simp
          exact unhide hK _ _ ⟨u0, u1, u2, u3, u4, u5, u6, u7, true, true, u10, false, rfl, rfl, ⟨(unhide C2), (unhide C5), (unhide C6), (unhide C7), (fun _ => rfl), (fun h => ⟨(unhide C10 h).1, rfl⟩), (unhide C11)⟩, fun _ => rfl, (fun h => nomatch h)⟩
        · intro h0 hd K hK
          have z : u10 = false := h0
          have zl : u11 = false := by
            cases u11 with
            | false => rfl
            | true => exact nomatch z.symm.trans ((c11 rfl).2.2)
          have zd : u7 = true ∧ u9 = true := by
            simp [Region.binds] at hd
            simp [hd]
          have C2 := hide c2; have C5 := hide c5; have C6 := hide c6; have C7 := hide c7; have C9 := hide c9; have C10 := hide c10; have C11 := hide c11; clear c2 c5 c6 c7 c9 c10 c11
          obtain ⟨rfl, rfl⟩ := zd
          subst zl
          subst z
          have hW := hW0 rfl
          clear h0 hd hW0 hP
          subst hW
          rw [if_pos (by rfl)]
          go_simp
          exact unhide hK _ _ ⟨u0, u1, u2, u3, u4, u5, u6, true, u8, true, true, false, rfl, rfl, ⟨(unhide C2), (unhide C5), (unhide C6), (unhide C7), (unhide C9), (fun _ => ⟨rfl, rfl⟩), (fun h => ⟨(unhide C11 h).1, (unhide C11 h).2.1, rfl⟩)⟩, fun _ => rfl, (fun h => nomatch h)⟩
        · intro h0 hd K hK
          have z : u11 = false := h0
          have zd : u0 = true ∧ u2 = true ∧ u10 = true := by
            simp [Region.binds] at hd
            simp [hd]
          have C2 := hide c2; have C5 := hide c5; have C6 := hide c6; have C7 := hide c7; have C9 := hide c9; have C10 := hide c10; have C11 := hide c11; clear c2 c5 c6 c7 c9 c10 c11
          obtain ⟨rfl, rfl, rfl⟩ := zd
          subst z
          have hW := hW0 rfl
          clear h0 hd hW0 hP
          subst hW
          rw [if_pos (by rfl)]
          go_simp
          refine (unhide HR2).mono ?_
          rintro e w' ⟨rfl, hg', hf', ht'⟩
          have ht2 : Two g br w w' := (unhide HT').trans (Two.trans (Two.refl _ _ _).drew ht')
          go_simp
          exact unhide hK _ _ ⟨true, u1, true, u3, u4, u5, u6, u7, u8, u9, true, true, rfl, rfl, ⟨(unhide C2), (unhide C5), (unhide C6), (unhide C7), (unhide C9), (unhide C10), (fun _ => ⟨rfl, rfl, rfl⟩)⟩, (fun h => nomatch h), fun _ => ⟨hg', hf', ht2⟩⟩
      case hend =>
        rintro L A V ⟨u0, u1, u2, u3, u4, u5, u6, u7, u8, u9, u10, u11, rfl, rfl, ⟨c2, c5, c6, c7, c9, c10, c11⟩, hW0, hP⟩ hL
        have hl : u0 = true ∧ u1 = true ∧ u2 = true ∧ u3 = true ∧ u4 = true ∧ u5 = true ∧ u6 = true ∧ u7 = true ∧ u8 = true ∧ u9 = true ∧ u10 = true ∧ u11 = true := by
          have h2 := congrArg Array.toList hL
          simpa [List.replicate] using h2
        obtain ⟨rfl, rfl, rfl, rfl, rfl, rfl, rfl, rfl, rfl, rfl, rfl, rfl⟩ := hl
        have hp := hP rfl
        clear hL hW0 hP c2 c5 c6 c7 c9 c10 c11
        simp only [cond_true]
        obtain ⟨hg', hf', ht2⟩ := hp
        have HG2 := hide hg'
        have HF2 := hide hf'
        have HT2 := hide ht2
        clear hg' hf' ht2
        go_wp2_with fail
        rw [unhide HS, unhide HS2]
        exact bodyPost_end (v := .tuple #[]) (by simp [results, Try.results47, go_sem]) rfl ⟨rfl, unhide HG2, unhide HF2, unhide HT2⟩
end Go.Proofs.Ytchdmigeopmacaa
