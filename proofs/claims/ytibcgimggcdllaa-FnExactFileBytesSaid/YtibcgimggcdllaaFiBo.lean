/-
  The program's bytes of one feature.
-/
import Derived.Test.YtibcgimggcdllaaFiIx
import Derived.Test.YtibcgimggcdllaaRowX
import Derived.Lib.AppendStr
import Derived.Deep.RegionLaw
namespace Go.Proofs.Ytibcgimggcdllaa
open Go.ChangeShapes Go.WideShapes Go.ChangeAt Go.RowKit
set_option linter.unusedVariables false
set_option linter.unusedSimpArgs false

/-- a row of bytes of one's own -/
def Rb (w : World) (B : Nat) (v : Value) (n : Nat) (L : List Int) : Prop := w.ownsRow B 5 1 v n (byL L)
theorem Rb.bel {w w' : World} {B n : Nat} {v : Value} {L : List Int} (h : Rb w B v n L) (hb : Below w.heap.size w w') : Rb w' B v n L := own_bel h hb
theorem Rb.mono {w : World} {B B' n : Nat} {v : Value} {L : List Int} (h : Rb w B v n L) (hb : B' ≤ B) : Rb w B' v n L := own_mono h hb
theorem byL_app (A B : List Int) : byL (A ++ B) = byL A ++ byL B := by simp [byL]
theorem byL_one (L : List Int) : ∀ u ∈ byL L, u.oneCell' = true := by
  intro u hu
  obtain ⟨x, _, rfl⟩ := List.mem_map.1 hu
  rfl
theorem rb_more {B n m : Nat} {wr W2 w1 : World} {v v' : Value} {L news : List Int} (hbel : Below B wr W2) (hB : B ≤ W2.heap.size) (hown : Rb wr B v n L)
    (hown' : w1.ownsRow B 5 1 v' (n + m) (byL L ++ byL news)) (hgrow : W2.grownBy w1 v.ownBlock) :
    Rb w1 B v' (n + m) (L ++ news) ∧ Below B wr w1 :=
  ⟨by unfold Rb; rw [byL_app]; exact hown', hbel.grown hgrow hB (fun j hj => (own_ge hown j hj).1)⟩
theorem info5 : (Try.prog.info? 5).map (fun i => (i.zero, i.size, i.bytes)) = some (some (.int .u8 0), 1, 1) := by kernel_rfl
def numC (f : Ft) : List Value := [.int .i64 f.kd, .int .i64 f.sd, .int .i64 f.ct, .int .i64 f.x0, .int .i64 f.y0, .int .i64 f.z0, .int .i64 f.x1, .int .i64 f.y1, .int .i64 f.z1, .int .i64 f.dx, .int .i64 f.dy, .int .i64 f.dz]
theorem num_at (f : Ft) (i : Nat) (h12 : i < 12) : ∃ x y, (numC f)[i]? = some (.int .i64 x) ∧ (numL f)[i]? = some y ∧ x + shf i = y := by
  have hi : i = 0 ∨ i = 1 ∨ i = 2 ∨ i = 3 ∨ i = 4 ∨ i = 5 ∨ i = 6 ∨ i = 7 ∨ i = 8 ∨ i = 9 ∨ i = 10 ∨ i = 11 := by omega
  rcases hi with rfl | rfl | rfl | rfl | rfl | rfl | rfl | rfl | rfl | rfl | rfl | rfl <;> exact ⟨_, _, rfl, rfl, by simp [shf]⟩
theorem shf_in (i : Nat) : 0 ≤ shf i ∧ shf i ≤ 100 := by unfold shf; split <;> omega
theorem numL_len (f : Ft) : (numL f).length = 12 := rfl
theorem strL_cells (s : ByteArray) : Lib.strCells s = byL (strL s) := by
  unfold Lib.strCells byL strL
  rw [List.map_map]
  rfl
theorem take_one {L : List Int} {i : Nat} {y : Int} (h : L[i]? = some y) : L.take (i + 1) = L.take i ++ [y] := by rw [List.take_add_one, h]; rfl
/-- one of three texts -/
def pk (a b c : ByteArray) (j : Nat) : ByteArray := if j = 0 then a else if j = 1 then b else c
theorem tx_ix0 (a b c : ByteArray) (W : World) : (Instr.index 82 (.agg #[.string a, .string b, .string c]) (.int .i64 0)).run Try.prog W = .ok (.string (pk a b c 0)) W := by kernel_rfl
theorem tx_ix1 (a b c : ByteArray) (W : World) : (Instr.index 82 (.agg #[.string a, .string b, .string c]) (.int .i64 1)).run Try.prog W = .ok (.string (pk a b c 1)) W := by kernel_rfl
theorem tx_ix2 (a b c : ByteArray) (W : World) : (Instr.index 82 (.agg #[.string a, .string b, .string c]) (.int .i64 2)).run Try.prog W = .ok (.string (pk a b c 2)) W := by kernel_rfl
theorem tx_ix (a b c : ByteArray) (j : Nat) (h : j < 3) (W : World) : (Instr.index 82 (.agg #[.string a, .string b, .string c]) (.int .i64 (j : Int))).run Try.prog W = .ok (.string (pk a b c j)) W := by
  have hi : j = 0 ∨ j = 1 ∨ j = 2 := by omega
  rcases hi with rfl | rfl | rfl
  · exact tx_ix0 a b c W
  · exact tx_ix1 a b c W
  · exact tx_ix2 a b c W
theorem len_at (f : Ft) (j : Nat) (h : j < 3) : (lenL f)[j]? = some ((pk f.nm f.on f.ov j).size : Int) := by
  have hi : j = 0 ∨ j = 1 ∨ j = 2 := by omega
  rcases hi with rfl | rfl | rfl <;> rfl
def tx3 (f : Ft) (j : Nat) : List Int := (List.range j).flatMap fun k => strL (pk f.nm f.on f.ov k)
theorem tx3_succ (f : Ft) (j : Nat) : tx3 f (j + 1) = tx3 f j ++ strL (pk f.nm f.on f.ov j) := by
  unfold tx3
  rw [List.range_succ]
  simp
theorem tx3_all (f : Ft) : numL f ++ lenL f ++ tx3 f 3 = bodL f := by
  rw [show (3 : Nat) = 2 + 1 from rfl, tx3_succ, show (2 : Nat) = 1 + 1 from rfl, tx3_succ, show (1 : Nat) = 0 + 1 from rfl, tx3_succ]
  simp [tx3, bodL, pk]
theorem pk_sz {f : Ft} (h : f.nm.size ≤ 40 ∧ f.on.size ≤ 40 ∧ f.ov.size ≤ 40) (j : Nat) : (pk f.nm f.on f.ov j).size ≤ 40 := by
  unfold pk
  split
  · exact h.1
  · split
    · exact h.2.1
    · exact h.2.2
theorem Rb.len {w : World} {B n : Nat} {v : Value} {L : List Int} (h : Rb w B v n L) : L.length = n := by have := h.1; rw [byL_len] at this; omega
theorem tx3_len {f : Ft} (h : f.nm.size ≤ 40 ∧ f.on.size ≤ 40 ∧ f.ov.size ≤ 40) (j : Nat) : (tx3 f j).length ≤ 40 * j := by
  induction j with
  | zero => simp [tx3]
  | succ j ih =>
    rw [tx3_succ, List.length_append, strL_len]
    have := pk_sz h j
    omega
/-- between two numbers -/
structure Bdy (w W : World) (Bq gn : Nat) (f : Ft) (b : Value) (n : Nat) (L : List Int) : Prop where
  ro : Rb W Bq b n L
  bo : vb W w.heap.size 53 (ftc f)
  nu : vb W gn 76 (numC f)
  be : Below w.heap.size w W
  bq : Bq ≤ W.heap.size
theorem Bdy.bel {w W W' : World} {Bq gn n : Nat} {f : Ft} {b : Value} {L : List Int} (h : Bdy w W Bq gn f b n L) (hb : Below W.heap.size W W') : Bdy w W' Bq gn f b n L :=
  ⟨h.ro.bel hb, h.bo.bel hb, h.nu.bel hb, bc h.be hb, Nat.le_trans h.bq hb.size⟩
theorem vb.grown {w w' : World} {g t : Nat} {vs : List Value} {row : Option Nat} (h : vb w g t vs) (hg : w.grownBy w' row) (hn : row ≠ some g) : vb w' g t vs := (hg.block g h.lt (fun e => hn e.symm)).trans h
theorem Bdy.more {w W W' : World} {Bq gn n m : Nat} {f : Ft} {b b' : Value} {L M : List Int} (h : Bdy w W Bq gn f b n L) (hw : w.heap.size < Bq) (hg : gn < Bq) (hr : Rb W' Bq b' m M) (hb : Below Bq W W') : Bdy w W' Bq gn f b' m M :=
  ⟨hr, (hb.block _ hw).trans h.bo, (hb.block _ hg).trans h.nu, h.be.trans (hb.mono (Nat.le_of_lt hw)), Nat.le_trans h.bq hb.size⟩
set_option maxRecDepth 100000 in
set_option maxHeartbeats 8000000 in
theorem body_any (f : Ft) (w : World) (hf : Frs f) (hs : f.nm.size ≤ maxLen ∧ f.on.size ≤ maxLen ∧ f.ov.size ≤ maxLen) :
    Calls Try.prog 26 #[ftv f] w fun e w' => (∃ g cap, e = .returned (.slice (some ⟨g, 0, none⟩) (bodL f).length cap) ∧ Rb w' w.heap.size (.slice (some ⟨g, 0, none⟩) (bodL f).length cap) (bodL f).length (bodL f)) ∧ Below w.heap.size w w' := by
  obtain ⟨iP, hi1, hy0, hy1, hy2⟩ := info_parts info5
  have HB0 := hide (ba (Below.refl w.heap.size w) (.cells (ftc f).toArray 53))
  have HV0 := hide (vb_new w 53 (ftc f) w.heap.size rfl)
  have HN := hide (fun W => nums_any f W)
  have HR := hide (fun W => rules_any W)
  have HIX := hide rul_ix
  have HNA := hide (num_at f)
  have HNB := hide hf.num
  have HZ := hide (And.intro hf.n1 (And.intro hf.n2 hf.n3))
  have HNL := hide (numL_len f)
  generalize hFF : rulL = F at *
  clear hFF
  obtain ⟨nm, on, ov, kd, sd, x0, y0, z0, x1, y1, z1, ct, dx, dy, dz⟩ := f
  unfold ftv
  unfold ftv at HN
  simp only [ftc] at HB0 HV0
  unfold numV at HN
  clear hf
  go_enter Try.func26, Try.ntmps26
  have k0 := (unhide HV0).cell (m := 0) rfl
  go_wp2_with fail
  refine (unhide HN _).mono ?_
  rintro e W1 ⟨rfl, hb1⟩
  have hs1 := hb1.size
  have V1 := (unhide HV0).bel hb1
  have HB1 := hide (bc (unhide HB0) hb1)
  have HV1 := hide V1
  clear hb1 V1 k0
  have HV2 := hide (vb_new W1 76 [.int .i64 kd, .int .i64 sd, .int .i64 ct, .int .i64 x0, .int .i64 y0, .int .i64 z0, .int .i64 x1, .int .i64 y1, .int .i64 z1, .int .i64 dx, .int .i64 dy, .int .i64 dz] W1.heap.size rfl)
  have alo := ba (Below.refl W1.heap.size W1) (.cells #[.int .i64 kd, .int .i64 sd, .int .i64 ct, .int .i64 x0, .int .i64 y0, .int .i64 z0, .int .i64 x1, .int .i64 y1, .int .i64 z1, .int .i64 dx, .int .i64 dy, .int .i64 dz] 76)
  have HB2 := hide (bc (unhide HB1) alo)
  have HVB := hide ((unhide HV1).bel alo)
  clear alo HB1 HV1 HB0 HV0 HN
  go_wp2_with fail
  refine (unhide HR _).mono ?_
  rintro e W2 ⟨rfl, hb2⟩
  have HST : Hid (Bdy w W2 W2.heap.size W1.heap.size ⟨nm, on, ov, kd, sd, x0, y0, z0, x1, y1, z1, ct, dx, dy, dz⟩ (.slice none 0 0) 0 []) := hide ⟨own_nil _ _ _ _, (unhide HVB).bel hb2, (unhide HV2).bel hb2, bc (unhide HB2) hb2, Nat.le_refl _⟩
  have hgn : W1.heap.size < W2.heap.size := Nat.lt_of_lt_of_le (unhide HV2).lt hb2.size
  have hwq : w.heap.size < W2.heap.size := Nat.lt_of_lt_of_le (unhide HVB).lt hb2.size
  clear hb2 HB2 HVB HV2 HR
  generalize hf9 : (⟨nm, on, ov, kd, sd, x0, y0, z0, x1, y1, z1, ct, dx, dy, dz⟩ : Ft) = f9 at *
  have HF9 := hide hf9
  clear hf9
  generalize W1.heap.size = gn at *
  generalize W2.heap.size = Bq at *
  go_wp2_with fail
  go_loopw [3, 15] (fun b s W => ∃ i : Nat, s = .int .i64 (i : Int) ∧ i ≤ 12 ∧ Bdy w W Bq gn f9 b i ((numL f9).take i)) (fun _ s _ => 12 - (intOf s).toNat)
  case atStart => exact ⟨0, rfl, by omega, by simpa using unhide HST⟩
  case round =>
    clear HST
    obtain ⟨i, rfl, hi, hst⟩ := hrel
    have HS := hide hst
    by_cases h : i < 12
    · have i1 : (i : Int) < 12 := by omega
      have i0 : (0 : Int) ≤ (i : Int) := Int.natCast_nonneg _
      have iz : decide ((i : Int) < 12) = true := decide_eq_true i1
      obtain ⟨x, y, hx, hy, hxy⟩ := unhide HNA i h
      obtain ⟨yb0, yb1⟩ := unhide HNB y (List.mem_of_getElem? hy)
      obtain ⟨sb0, sb1⟩ := shf_in i
      have hix := unhide HIX i h
      generalize shf i = sh at *
      generalize raI i = ra at *
      generalize rbI i = rb at *
      have k0 := hst.nu.cell hx
      have k0l := hst.nu.lt
      have hsz := hst.bq
      have HY := hide hy
      obtain ⟨ub, cb, rfl, _⟩ := own_form hst.ro
      have hxs : IntKind.i64.wrap (x + sh) = y := by rw [wrap_i (by omega) (by omega)]; exact hxy
      have hyy : IntKind.u8.wrap y = y := u8_in yb0 yb1
      have HXY := hide hxy
      clear hst hx hy hxy
      go_wp2_with fail
      have alo := ba (Below.refl wr.heap.size wr) (.cells #[.int .i64 ra, .int .i64 rb, .int .i64 sh] 79)
      have HSz := hide ((unhide HS).bel alo)
      have cr := vb_new wr 79 [.int .i64 ra, .int .i64 rb, .int .i64 sh] wr.heap.size rfl
      have d2 := cr.cell (m := 2) rfl
      have d2l := cr.lt
      have e0 := keep1 alo k0
      have e0l : gn < (wr.alloc (.cells #[.int .i64 ra, .int .i64 rb, .int .i64 sh] 79)).heap.size := Nat.lt_of_lt_of_le k0l alo.size
      have hszz : Bq ≤ (wr.alloc (.cells #[.int .i64 ra, .int .i64 rb, .int .i64 sh] 79)).heap.size := Nat.le_trans hsz alo.size
      clear alo cr k0 k0l
      generalize (wr.alloc (.cells #[.int .i64 ra, .int .i64 rb, .int .i64 sh] 79)) = Wz at *
      generalize wr.heap.size = gr at *
      clear hix
      go_region_law
        (first
        | (refine step_own (by rfl) (.tmp 19) (.tmp 27) _ (by rfl) Bq 5 iP _ 1 1 Try.underlying22 hi1 hy0 hy1 hy2 rfl (by omega) (.slice ub i cb) i (byL ((numL f9).take i)) (by rfl) (own_bel (unhide HSz).ro (by repeat (first | exact Below.refl _ _ | refine ba ?_ _ | refine Below.drew ?_)))
            ⟨_, 0, none⟩ 1 1 (byL [y]) (by rfl) (by rfl) (by first | exact news_cells _ _ rfl | exact news_cells _ _ (by simp) | exact news_drew _ _ (by simp)) (byL_one _) (by unfold maxLen; omega) (by omega) (by first | omega | (simp; omega)) ?_; intro v' wy hown' hgrow hvn; have R := hide (rb_more (wr := Wz) (news := [y]) (by repeat (first | exact Below.refl _ _ | refine Below.alloc ?_ (by first | omega | (simp; omega)) _ | refine Below.drew ?_)) (by first | omega | (simp; omega)) (unhide HSz).ro hown' hgrow); clear hown' hgrow hvn))
      all_goals
        have HS9 : Hid (Bdy w wy Bq gn f9 v' (i + 1) ((numL f9).take (i + 1))) := hide (by
          rw [take_one (unhide HY)]
          exact (unhide HSz).more hwq hgn (unhide R).1 (unhide R).2)
        clear R
        go_wp2_with fail
        go_roundw
        case rel => first | exact ⟨i + 1, by simp, by omega, unhide HS9⟩ | ((repeat apply Exists.intro); refine ⟨?_, rfl⟩; exact ⟨i + 1, by simp, by omega, unhide HS9⟩)
        case measure => simp only [intOf]; omega
    · have i1 : ¬ (i : Int) < 12 := by omega
      have iz : decide ((i : Int) < 12) = false := decide_eq_false i1
      have e12 : i = 12 := by omega
      subst e12
      rw [List.take_of_length_le (by rw [unhide HNL]; omega)] at hst
      have HS2 := hide hst
      have k0 := hst.bo.cell (m := 0) (by rw [← unhide HF9]; rfl)
      have k1 := hst.bo.cell (m := 1) (by rw [← unhide HF9]; rfl)
      have k2 := hst.bo.cell (m := 2) (by rw [← unhide HF9]; rfl)
      have kl := hst.bo.lt
      obtain ⟨ub, cb, rfl, _⟩ := own_form hst.ro
      clear hst HS HNA HNB HIX
      go_wp2_with fail
      have alo := ba (Below.refl wr.heap.size wr) (.cells #[.string nm, .string on, .string ov] 82)
      have HS3 := hide ((unhide HS2).bel alo)
      have HVT := hide (vb_new wr 82 [.string nm, .string on, .string ov] wr.heap.size rfl)
      have HNT : Hid (∀ g, (Value.slice ub 12 cb).ownBlock = some g → g ≠ wr.heap.size) := hide (fun g hg => by have := own_ge (unhide HS2).ro g hg; omega)
      have HIT := hide (fun j (h : j < 3) (W : World) => tx_ix nm on ov j h W)
      have HLA : Hid (∀ j, j < 3 → (lenL f9)[j]? = some ((pk nm on ov j).size : Int)) := hide (by rw [← unhide HF9]; exact len_at _)
      have HPS : Hid (∀ j, (pk nm on ov j).size ≤ 40) := hide (pk_sz (f := ⟨nm, on, ov, kd, sd, x0, y0, z0, x1, y1, z1, ct, dx, dy, dz⟩) (unhide HZ))
      clear alo HS2 k0 k1 k2 kl
      generalize (wr.alloc (.cells #[.string nm, .string on, .string ov] 82)) = Wt at *
      generalize wr.heap.size = gt at *
      go_loopw [3, 38] (fun b s W => ∃ j : Nat, s = .int .i64 (j : Int) ∧ j ≤ 3 ∧ Bdy w W Bq gn f9 b (12 + j) (numL f9 ++ (lenL f9).take j) ∧ vb W gt 82 [.string nm, .string on, .string ov] ∧ (∀ g, b.ownBlock = some g → g ≠ gt)) (fun _ s _ => 3 - (intOf s).toNat)
      case atStart => exact ⟨0, rfl, by omega, by simpa using unhide HS3, unhide HVT, unhide HNT⟩
      case round =>
        clear HS3 HVT HNT
        obtain ⟨j, rfl, hj, hst, hvt, hnt⟩ := hrel
        have HS4 := hide hst
        have HVT := hide hvt
        have HNT := hide hnt
        have hsz := hst.bq
        obtain ⟨ub2, cb2, rfl, _⟩ := own_form hst.ro
        by_cases h3 : j < 3
        · have j1 : (j : Int) < 3 := by omega
          have j0 : (0 : Int) ≤ (j : Int) := Int.natCast_nonneg _
          have jz : decide ((j : Int) < 3) = true := decide_eq_true j1
          have hit := unhide HIT j h3
          have hps := unhide HPS j
          have HLJ := hide (unhide HLA j h3)
          generalize pk nm on ov j = sj at *
          have sj0 : (0 : Int) ≤ (sj.size : Int) := Int.natCast_nonneg _
          have hwr : IntKind.u8.wrap (sj.size : Int) = (sj.size : Int) := u8_in sj0 (by omega)
          clear hst hvt hnt
          go_wp2_with (at_builtin; refine unhide ?_)
          refine hide ?_
          refine wpList_append_new _ rfl _ _ 22 rfl Bq 5 iP _ 1 1 Try.underlying22 hi1 hy0 hy1 hy2 rfl (by decide) _ (12 + j) (byL (numL f9 ++ (lenL f9).take j)) rfl (own_bel (unhide HS4).ro (by repeat (first | exact Below.refl _ _ | refine ba ?_ _ | refine Below.drew ?_)))
            ⟨_, 0, none⟩ 1 1 (byL [(sj.size : Int)]) rfl rfl (by first | exact news_cells _ _ rfl | exact news_cells _ _ (by simp)) (byL_one _) (by unfold maxLen; omega) (by omega) (by first | omega | (simp; omega)) ?_
          intro v' wy hown' hgrow hvn hnew
          have alo := ba (Below.refl wr.heap.size wr) (.cells (byL [(sj.size : Int)]).toArray 5)
          have R := rb_more (wr := wr) (news := [(sj.size : Int)]) (alo.mono hsz) (by first | omega | (simp; omega)) (unhide HS4).ro hown' hgrow
          have HR5 : Hid (Bdy w wy Bq gn f9 v' (12 + (j + 1)) (numL f9 ++ (lenL f9).take (j + 1))) := hide (by
            rw [take_one (unhide HLJ), ← List.append_assoc]
            exact (unhide HS4).more hwq hgn R.1 R.2)
          have HVT5 : Hid (vb wy gt 82 [.string nm, .string on, .string ov]) := hide (((unhide HVT).bel alo).grown hgrow (fun e => unhide HNT gt e rfl))
          have HNT5 : Hid (∀ g, v'.ownBlock = some g → g ≠ gt) := hide (fun g hg => by
            rcases hnew g hg with e | e
            · exact unhide HNT g e
            · have h1 := (unhide HVT).lt
              have h2 := alo.size
              have h3 : wr.heap.size ≤ g := Nat.le_trans h2 e
              omega)
          clear R hown' hgrow hvn hnew alo
          go_wp2_with fail
          go_roundw
          case rel => exact ⟨j + 1, by simp, by omega, unhide HR5, unhide HVT5, unhide HNT5⟩
          case measure => simp only [intOf]; omega
        · have j1 : ¬ (j : Int) < 3 := by omega
          have jz : decide ((j : Int) < 3) = false := decide_eq_false j1
          have e3 : j = 3 := by omega
          subst e3
          have k0 := hvt.cell (m := 0) rfl
          have k1 := hvt.cell (m := 1) rfl
          have k2 := hvt.cell (m := 2) rfl
          have HS5 : Hid (∃ n, n ≤ 1000 ∧ n = 15 ∧ Bdy w wr Bq gn f9 (.slice ub2 (12 + 3) cb2) n (numL f9 ++ lenL f9 ++ tx3 f9 0)) := hide ⟨15, by omega, rfl, by
            rw [List.take_of_length_le (by simp [lenL])] at hst
            simpa [tx3] using hst⟩
          clear hst hvt hnt HNT HVT HS4
          have HT3 : Hid (∀ j, tx3 f9 (j + 1) = tx3 f9 j ++ strL (pk nm on ov j)) := hide (by rw [← unhide HF9]; exact tx3_succ _)
          have HTL : Hid (∀ j, (tx3 f9 j).length ≤ 40 * j) := hide (by rw [← unhide HF9]; exact tx3_len (f := ⟨nm, on, ov, kd, sd, x0, y0, z0, x1, y1, z1, ct, dx, dy, dz⟩) (unhide HZ))
          have HT0 : Hid ((numL f9 ++ lenL f9).length = 15) := hide (by rw [← unhide HF9]; rfl)
          have HTA : Hid (numL f9 ++ lenL f9 ++ tx3 f9 3 = bodL f9) := hide (tx3_all f9)
          go_wp2_with fail
          go_loopw [3, 49] (fun b s W => ∃ j n : Nat, s = .int .i64 (j : Int) ∧ j ≤ 3 ∧ Bdy w W Bq gn f9 b n (numL f9 ++ lenL f9 ++ tx3 f9 j)) (fun _ s _ => 3 - (intOf s).toNat)
          case atStart =>
            obtain ⟨n, _, rfl, h5⟩ := unhide HS5
            exact ⟨0, 15, rfl, by omega, h5⟩
          case round =>
            clear HS5
            obtain ⟨j, n, rfl, hj, hst⟩ := hrel
            have HS6 := hide hst
            have hsz := hst.bq
            have hlen := hst.ro.len
            rw [List.length_append, unhide HT0] at hlen
            have htl := unhide HTL j
            obtain ⟨ub3, cb3, rfl, hub3⟩ := own_form hst.ro
            by_cases h3 : j < 3
            · have j1 : (j : Int) < 3 := by omega
              have j0 : (0 : Int) ≤ (j : Int) := Int.natCast_nonneg _
              have jz : decide ((j : Int) < 3) = true := decide_eq_true j1
              have hit := unhide HIT j h3
              have hps := unhide HPS j
              have HT3J := hide (unhide HT3 j)
              generalize pk nm on ov j = sj at *
              have hnn : n ≤ 200 := by omega
              have HHL := hide hlen
              clear hst hub3 hlen htl
              go_wp2_with (at_builtin; refine unhide ?_)
              refine hide ?_
              refine Lib.wpList_append_own_string _ rfl _ _ 22 9 rfl Bq 5 iP Try.underlying22 Try.underlying9 hi1 hy0 hy1 hy2 _ n (byL (numL f9 ++ lenL f9 ++ tx3 f9 j)) rfl (unhide HS6).ro sj rfl (by unfold maxLen; omega) (by omega) hsz ?_
              intro v' wy hown' hgrow hvn
              rw [strL_cells] at hown'
              have R := rb_more (wr := wr) (news := strL sj) (m := sj.size) (Below.refl _ _) hsz (unhide HS6).ro hown' hgrow
              have HR7 : Hid (Bdy w wy Bq gn f9 v' (n + sj.size) (numL f9 ++ lenL f9 ++ tx3 f9 (j + 1))) := hide (by
                rw [unhide HT3J, ← List.append_assoc]
                exact (unhide HS6).more hwq hgn R.1 R.2)
              clear R hown' hgrow hvn
              go_wp2_with fail
              go_roundw
              case rel => exact ⟨j + 1, n + sj.size, by simp, by omega, unhide HR7⟩
              case measure => simp only [intOf]; omega
            · have j1 : ¬ (j : Int) < 3 := by omega
              have jz : decide ((j : Int) < 3) = false := decide_eq_false j1
              have e3 : j = 3 := by omega
              subst e3
              obtain ⟨g, rfl, _, _, _⟩ := hub3.2.2 (by omega)
              have hro := hst.ro
              rw [unhide HTA] at hro
              have en : (bodL f9).length = n := hro.len
              have HRO := hide (hro.mono (Nat.le_of_lt hwq))
              have HBE := hide hst.be
              have HEN := hide en
              clear hst hro en hlen htl hub3 HS6
              go_wp2_with fail
              go_ret
              rw [unhide HF9, unhide HEN]
              exact ⟨⟨g, cb3, rfl, unhide HRO⟩, unhide HBE⟩
end Go.Proofs.Ytibcgimggcdllaa
