/-
  Half a hull: the program's leftTurns and the model's l03Half. Half a hull as the model makes it. Fractions in plain numbers: the greatest common divisor by remainders, and what is reduced. A spot reduced, by the model and by the program. The order of points, boxes of two points, points as spots, of both sides. The model's sorted points, each once. The model's hull.
-/
import Derived.Test.YtdcecfgmfmpeeaaPlaneq
import Derived.Test.YtdcecfgmfmpeeaaLeavesq
import Derived.Deep.RegionHeld3
import Derived.ProofKit
import Derived.IntWalk
import Derived.Deep.RegionLaw
namespace Go.Proofs.Ytdcecfgmfmpeeaa
open Go.ChangeShapes Go.WideShapes Go.ChangeAt Go.RowKit
set_option linter.unusedVariables false
set_option linter.unusedSimpArgs false
theorem flat2_take (L : List Pt) (i : Nat) : (flat2 L).take (i * 2) = flat2 (L.take i) := by
 induction L generalizing i with
 | nil => simp [flat2]
 | cons x L ih =>
  cases i with
  | zero => rfl
  | succ i =>
   show (x.1 :: x.2 :: flat2 L).take ((i + 1) * 2) = x.1 :: x.2 :: flat2 (L.take i)
   rw [show (i + 1) * 2 = i * 2 + 1 + 1 by omega, List.take_succ_cons, List.take_succ_cons, ih]
theorem flat2_drop (L : List Pt) (i : Nat) : (flat2 L).drop (i * 2) = flat2 (L.drop i) := by
 induction L generalizing i with
 | nil => simp [flat2]
 | cons x L ih =>
  cases i with
  | zero => rfl
  | succ i =>
   show (x.1 :: x.2 :: flat2 L).drop ((i + 1) * 2) = flat2 (L.drop i)
   rw [show (i + 1) * 2 = i * 2 + 1 + 1 by omega, List.drop_succ_cons, List.drop_succ_cons, ih]
theorem Row.pop {w : World} {B t k g n m cap : Nat} {L : List Int} (h : Row w B t k (.slice (some ⟨g, 0, none⟩) n cap) n L) (hm : m ≤ n) : Row w B t k (.slice (some ⟨g, 0, none⟩) m cap) m (L.take (m * k)) := by
 have hl := h.len
 rcases h.2 with ⟨h1, _⟩ | ⟨g', cap', cur, hv, hB, hh, hn, hx, hs, ht⟩
 ·cases h1
 ·cases hv
  have hmk : m * k ≤ n * k := Nat.mul_le_mul_right k hm
  refine ⟨by rw [List.length_map, List.length_take, hl]; exact Nat.min_eq_left hmk, .inr ⟨g, cap, cur, rfl, hB, hh, Nat.le_trans hm hn, hx, hs, ?_⟩⟩
  rw [List.map_take, ← ht, List.take_take, Nat.min_eq_left hmk]
theorem top_two (a b : Pt) (t : List Pt) : (b :: a :: t).reverse[t.length]? = some a ∧ (b :: a :: t).reverse[t.length + 1]? = some b ∧ (b :: a :: t).reverse.take (t.length + 1) = (a :: t).reverse := by
 have e : (b :: a :: t).reverse = t.reverse ++ [a, b] := by simp
 rw [e]
 refine ⟨?_, ?_, ?_⟩
 ·rw [List.getElem?_append_right (by simp)]; simp
 ·rw [List.getElem?_append_right (by simp)]; simp
 ·rw [show t.reverse ++ [a, b] = (a :: t).reverse ++ [b] by simp]
  exact List.take_left' (by simp)
theorem popR_stop {a b p : Pt} {t : List Pt} (h : ¬ side a b p ≤ 0) : popR (b :: a :: t) p = b :: a :: t := by unfold popR; rw [if_neg h]
theorem popR_go {a b p : Pt} {t : List Pt} (h : side a b p ≤ 0) : popR (b :: a :: t) p = popR (a :: t) p := by rw [popR, if_pos h]
theorem popR_short {s : List Pt} {p : Pt} (h : s.length < 2) : popR s p = s := by
 cases s with
 | nil => rfl
 | cons a s =>
  cases s with
  | nil => rfl
  | cons b s => simp at h; omega
theorem halfR_succ {L : List Pt} {i : Nat} {p : Pt} (h : L[i]? = some p) : halfR (L.take (i + 1)) = p :: popR (halfR (L.take i)) p := by
 unfold halfR
 rw [List.take_add_one, h, List.foldl_append]
 rfl
theorem popR_mem : ∀ (s : List Pt) (p q : Pt), q ∈ popR s p → q ∈ s := by
 intro s
 induction s with
 | nil => intro p q h; exact h
 | cons b s ih =>
  intro p q h
  cases s with
  | nil => exact h
  | cons a t =>
   unfold popR at h
   split at h
   ·exact List.mem_cons_of_mem _ (ih p q h)
   ·exact h
theorem halfR_le (L : List Pt) : (halfR L).length ≤ L.length := by
 cases L with
 | nil => exact Nat.le_refl _
 | cons a L =>
  cases L with
  | nil => exact Nat.le_refl _
  | cons b L =>
   have := (half_facts (a := a) (L := b :: L) (by simp)).2.2.2
   unfold half at this
   simpa using this
theorem sgn_le (n : Int) : decide (sgn n ≤ 0) = decide (n ≤ 0) := by
 unfold sgn
 split
 ·rw [decide_eq_false (by omega), decide_eq_false (by omega)]
 ·split
  ·rw [decide_eq_true (by omega), decide_eq_true (by omega)]
  ·rw [decide_eq_true (by omega), decide_eq_true (by omega)]
set_option maxHeartbeats 4000000 in
set_option maxRecDepth 100000 in
theorem leftTurns_any (b cap : Nat) (L : List Pt) (w : World) (hn : L.length ≤ 4096) (hb : b < w.heap.size) (hok : ∀ p ∈ L, ptOk p = true) (hI : IntsAt w b 0 (flat2 L)) :
  Calls Try.prog 38 #[.slice (some ⟨b, 0, none⟩) L.length cap] w fun e w' => ∃ v, e = .returned v ∧ Row w' w.heap.size 30 2 v (half L).length (flat2 (half L)) ∧ Below w.heap.size w w' := by
 obtain ⟨iP, hi1, hy0, hy1, hy2⟩ := info_parts info26
 have HOK := hide hok
 have HI := hide hI
 clear hok hI
 go_enter Try.func38, Try.ntmps38
 go_wp2_with fail
 go_loopw [3, 9] (fun v s W => ∃ i : Nat, s = .int .i64 (i : Int) ∧ i ≤ L.length ∧ (∀ q ∈ halfR (L.take i), ptOk q = true) ∧ Row W w.heap.size 30 2 v (halfR (L.take i)).length (flat2 (halfR (L.take i)).reverse) ∧ Below w.heap.size w W) (fun _ s _ => L.length - (intOf s).toNat)
 case atStart => exact ⟨0, rfl, by omega, (fun q hq => by cases hq), World.ownsRow_nil _ _ _ _, Below.refl _ _⟩
 case round =>
  obtain ⟨i, rfl, hi, hmem, hrow, hw⟩ := hrel
  have HM := hide hmem
  have HRW := hide hrow
  have HW := hide hw
  have hszw := hw.size
  clear hmem hrow hw
  by_cases h : i < L.length
  ·have iz : decide ((i : Int) < (L.length : Int)) = true := decide_eq_true (by omega)
   have i1 : (i : Int) < (L.length : Int) := by omega
   have i0 : (0 : Int) ≤ (i : Int) := by omega
   obtain ⟨p1, p2, hp⟩ : ∃ p1 p2 : Int, L[i]? = some (p1, p2) := ⟨_, _, List.getElem?_eq_getElem h⟩
   have kp := zu HOK _ (List.mem_of_getElem? hp)
   have hIw := (zu HI).below (zu HW) hb
   have c0 := hIw _ _ (flat2_at hp).1
   have c1 := hIw _ _ (flat2_at hp).2
   rw [Nat.zero_add] at c0 c1
   have HS := hide (halfR_succ hp)
   have HLE := hide (halfR_le (L.take i))
   have hle : (halfR (L.take i)).length ≤ L.length := by have := zu HLE; rw [List.length_take] at this; omega
   have HKP := hide kp
   obtain ⟨u, c, rfl, _⟩ := (zu HRW).form
   clear hIw hp kp
   generalize halfR (L.take i) = rs0 at *
   go_wp2_with fail
   obtain ⟨T, hT⟩ : ∃ T, T = wr.heap.size := ⟨_, rfl⟩
   rw [← hT]
   go_loopw [3, 6] (fun v s W => ∃ rs : List Pt, s = .int .i64 (rs.length : Int) ∧ rs.length ≤ rs0.length ∧ popR rs (p1, p2) = popR rs0 (p1, p2) ∧ (∀ q ∈ rs, ptOk q = true) ∧ Row W w.heap.size 30 2 v rs.length (flat2 rs.reverse) ∧ W.cell? ⟨T, 0, none⟩ = some (.int .i64 p1) ∧ W.cell? ⟨T, 1, none⟩ = some (.int .i64 p2) ∧ Below w.heap.size w W) (fun _ s _ => (intOf s).toNat)
   case atStart => exact ⟨rs0, rfl, Nat.le_refl _, rfl, zu HM, (zu HRW).alloc _, by rw [hT]; simp [go_sem], by rw [hT]; simp [go_sem], ba (zu HW) _⟩
   case round =>
    obtain ⟨rs, rfl, hrl, hpop, hmem2, hrow2, b0, b1, hw2⟩ := hrel
    have HP2 := hide hpop
    have HM2 := hide hmem2
    have HR2 := hide hrow2
    have HW2 := hide hw2
    have hsz2 := hw2.size
    have lb := cell_lt b0
    obtain ⟨ku, kc, rfl, _⟩ := hrow2.form
    clear hpop hmem2 hrow2 hw2
    have HAPP : ∀ (kv : Value) (m : Nat) (V : World), True := fun _ _ _ => trivial
    by_cases h2 : 2 ≤ rs.length
    ·obtain ⟨b', a', t, rfl⟩ : ∃ b' a' t, rs = b' :: a' :: t := by
      cases rs with
      | nil => simp at h2
      | cons x rs =>
       cases rs with
       | nil => simp at h2
       | cons y rs => exact ⟨x, y, rs, rfl⟩
     obtain ⟨b1', b2'⟩ := b'
     obtain ⟨a1', a2'⟩ := a'
     obtain ⟨gk, kc', hvk, hgk1, hgk2, hik, hkc, hkc2⟩ := (zu HR2).full (by omega)
     cases hvk
     have tt := top_two (a1', a2') (b1', b2') t
     have fa := flat2_at tt.1
     have fb := flat2_at tt.2.1
     have qa0 := hik _ _ fa.1
     have qa1 := hik _ _ fa.2
     have qb0 := hik _ _ fb.1
     have qb1 := hik _ _ fb.2
     rw [Nat.zero_add] at qa0 qa1 qb0 qb1
     have ka := zu HM2 _ (List.mem_cons_of_mem _ List.mem_cons_self)
     have kb := zu HM2 _ List.mem_cons_self
     have HTU := hide (fun W => turn_ints a1' a2' b1' b2' p1 p2 W ka kb (zu HKP))
     have HTT := hide tt.2.2
     obtain ⟨M2, hM2⟩ : ∃ M2 : Nat, M2 = t.length := ⟨_, rfl⟩
     obtain ⟨M1, hM1⟩ : ∃ M1 : Nat, M1 = t.length + 1 := ⟨_, rfl⟩
     rw [← hM2] at qa0 qa1
     rw [← hM1] at qb0 qb1
     have hml : ((b1', b2') :: (a1', a2') :: t).length = t.length + 2 := rfl
     generalize hm : ((b1', b2') :: (a1', a2') :: t).length = m at *
     have w2 : IntKind.i64.wrap ((m : Int) - 2) = (M2 : Int) := by rw [show (m : Int) - 2 = (M2 : Int) by omega]; exact wrap_i (by omega) (by omega)
     have w1 : IntKind.i64.wrap ((m : Int) - 1) = (M1 : Int) := by rw [show (m : Int) - 1 = (M1 : Int) by omega]; exact wrap_i (by omega) (by omega)
     have d2 : decide ((2 : Int) ≤ (m : Int)) = true := decide_eq_true (by omega)
     have j1 : (M2 : Int) < (m : Int) := by omega
     have j2 : (0 : Int) ≤ (M2 : Int) := by omega
     have j3 : (M1 : Int) < (m : Int) := by omega
     have j4 : (0 : Int) ≤ (M1 : Int) := by omega
     have j5 : (M1 : Int) ≤ (kc : Int) := by omega
     have EM1 := hide hM1
     have EM2 := hide hM2
     have EML := hide hml
     have EM := hide hm
     have ET := hide hT
     clear hik tt fa fb ka kb hM1 hM2 hml hm hT
     have hX : sgn ((b1' - a1') * (p2 - a2') - (b2' - a2') * (p1 - a1')) = sgn (side (a1', a2') (b1', b2') (p1, p2)) := rfl
     rw [hX] at HTU
     clear hX
     have hsl := sgn_le (side (a1', a2') (b1', b2') (p1, p2))
     generalize sgn (side (a1', a2') (b1', b2') (p1, p2)) = sd at *
     have HSL := hide hsl
     clear hsl
     go_wp2_with fail
     go_region_held3 (fun wx => wx.cell? ⟨gk, M2 * 2, none⟩ = some (.int .i64 a1') ∧ wx.cell? ⟨gk, M2 * 2 + 1, none⟩ = some (.int .i64 a2') ∧ wx.cell? ⟨gk, M1 * 2, none⟩ = some (.int .i64 b1') ∧ wx.cell? ⟨gk, M1 * 2 + 1, none⟩ = some (.int .i64 b2') ∧ wx.cell? ⟨T, 0, none⟩ = some (.int .i64 p1) ∧ wx.cell? ⟨T, 1, none⟩ = some (.int .i64 p2))
      (simp (maxDischargeDepth := 12) [go_sem, le1, lt1, *])
      (first
      | (go_at_call 64; refine (zu HTU _).mono ?_; rintro e W4 ⟨rfl, hb4⟩; have HB4 : Hid (Below wr.heap.size wr W4) := hide (by first | exact hb4 | exact bc (Below.drew (Below.refl _ _)) hb4); have r0 := keep1 (zu HB4) qa0; have r1 := keep1 (zu HB4) qa1; have r2 := keep1 (zu HB4) qb0; have r3 := keep1 (zu HB4) qb1; have r4 := keep1 (zu HB4) b0; have r5 := keep1 (zu HB4) b1; clear hb4))
     by_cases hs : side (a1', a2') (b1', b2') (p1, p2) ≤ 0
     ·have d3 : decide (sd ≤ 0) = true := by rw [zu HSL]; exact decide_eq_true hs
      have d4 : sd ≤ 0 := of_decide_eq_true d3
      have HRN : Hid (Row W4 w.heap.size 30 2 (.slice (some ⟨gk, 0, none⟩) M1 kc) M1 (flat2 ((a1', a2') :: t).reverse)) := hide (by have := ((zu HR2).below (zu HB4)).pop (m := M1) (by omega); rw [flat2_take] at this; have e := zu HTT; rw [← zu EM1] at e; rw [e] at this; exact this)
      have HPN := hide ((popR_go (t := t) hs).symm.trans (zu HP2))
      go_wp2_with fail
      go_roundw
      case rel =>
       have H : ∃ rs : List Pt, Value.int .i64 (M1 : Int) = .int .i64 (rs.length : Int) ∧ rs.length ≤ rs0.length ∧ popR rs (p1, p2) = popR rs0 (p1, p2) ∧ (∀ q ∈ rs, ptOk q = true) ∧ Row W4 w.heap.size 30 2 (.slice (some ⟨gk, 0, none⟩) M1 kc) rs.length (flat2 rs.reverse) ∧ W4.cell? ⟨T, 0, none⟩ = some (.int .i64 p1) ∧ W4.cell? ⟨T, 1, none⟩ = some (.int .i64 p2) ∧ Below w.heap.size w W4 :=
         ⟨(a1', a2') :: t, by rw [zu EM1]; rfl, by have := zu EML; have := zu EM1; simp; omega, zu HPN, fun q hq => zu HM2 q (List.mem_cons_of_mem _ hq), by have := zu HRN; rw [show ((a1', a2') :: t).length = M1 from (zu EM1).symm]; exact this, r4, r5, bc (zu HW2) (zu HB4)⟩
       first | exact H | ((repeat apply Exists.intro); refine ⟨?_, rfl⟩; exact H)
      case measure => simp only [intOf]; omega
     ·have d3 : decide (sd ≤ 0) = false := by rw [zu HSL]; exact decide_eq_false hs
      have d4 : ¬ sd ≤ 0 := of_decide_eq_false d3
      have d5 : 0 < sd := by omega
      have HRF : Hid (Row W4 w.heap.size 30 2 (.slice (some ⟨gk, 0, none⟩) m kc) m (flat2 ((b1', b2') :: (a1', a2') :: t).reverse)) := hide ((zu HR2).below (zu HB4))
      have HPF : Hid ((b1', b2') :: (a1', a2') :: t = popR rs0 (p1, p2)) := hide ((popR_stop hs).symm.trans (zu HP2))
      have HMF := HM2
      have HBF : Hid (Below w.heap.size w W4) := hide (bc (zu HW2) (zu HB4))
      have lb4 := cell_lt r4
      have hsz4 := (zu HBF).size
      clear r0 r1 r2 r3 qa0 qa1 qb0 qb1
      generalize (some (⟨gk, 0, none⟩ : Addr)) = kx at *
      have wi : IntKind.i64.wrap ((i : Int) + 1) = (i : Int) + 1 := wrap_i (by omega) (by omega)
      go_wp2_with (at_builtin; refine zu ?_)
      refine hide ?_
      refine wpList_append_own _ rfl _ _ 23 rfl w.heap.size 30 iP _ 2 16 Try.underlying23 hi1 hy0 hy1 hy2 rfl (by decide) _ _ _ rfl ((zu HRF).alloc _) _ 1 1 ([p1, p2].map (Value.int .i64)) rfl rfl (by first | exact news_cells _ _ rfl | exact news_cells _ _ (by simp) | exact news_drew _ _ (by simp)) ints_one (by unfold maxLen; omega) (by omega) (by simp; omega) ?_
      intro v' wz hown' hgrow _
      have R := hide (own_more (wr := W4) (news := [p1, p2]) (by repeat (first | exact Below.refl _ _ | refine Below.alloc ?_ (by first | omega | (simp; omega)) _ | refine Below.drew ?_)) (by simp; omega) (zu HRF) hown' hgrow)
      clear hown' hgrow
      go_wp2_with fail
      go_roundw
      case rel =>
       have H : ∃ i' : Nat, Value.int .i64 ((i : Int) + 1) = .int .i64 (i' : Int) ∧ i' ≤ L.length ∧ (∀ q ∈ halfR (L.take i'), ptOk q = true) ∧ Row wz w.heap.size 30 2 v' (halfR (L.take i')).length (flat2 (halfR (L.take i')).reverse) ∧ Below w.heap.size w wz := by
        refine ⟨i + 1, by simp, by omega, ?_, ?_, (zu HBF).trans (zu R).2⟩
        ·rw [zu HS, ← zu HPF]
         intro q hq
         rcases List.mem_cons.1 hq with rfl | hq
         ·exact zu HKP
         ·exact zu HMF q hq
        ·rw [zu HS, ← zu HPF, List.reverse_cons, flat2_app, List.length_cons, zu EM]
         exact (zu R).1
       first | exact H | ((repeat apply Exists.intro); refine ⟨?_, rfl⟩; exact H)
      case measure => simp only [intOf]; omega
    ·have d2 : decide ((2 : Int) ≤ (rs.length : Int)) = false := decide_eq_false (by omega)
     have HPF : Hid (rs = popR rs0 (p1, p2)) := hide ((popR_short (by omega)).symm.trans (zu HP2))
     have HMF := HM2
     have wi : IntKind.i64.wrap ((i : Int) + 1) = (i : Int) + 1 := wrap_i (by omega) (by omega)
     go_wp2_with fail
     go_quiet (fail)
     have HRF : Hid (Row (wr.drewN nq) w.heap.size 30 2 (.slice ku rs.length kc) rs.length (flat2 rs.reverse)) := hide ((zu HR2).below ⟨rfl, rfl, rfl, Nat.le_refl _, fun _ _ => rfl⟩)
     have HBF : Hid (Below w.heap.size w (wr.drewN nq)) := hide (bc (zu HW2) ⟨rfl, rfl, rfl, Nat.le_refl _, fun _ _ => rfl⟩)
     have hszd : w.heap.size ≤ (wr.drewN nq).heap.size := hsz2
     have r4 : (wr.drewN nq).cell? ⟨T, 0, none⟩ = some (.int .i64 p1) := keep1 ⟨rfl, rfl, rfl, Nat.le_refl _, fun _ _ => rfl⟩ b0
     have r5 : (wr.drewN nq).cell? ⟨T, 1, none⟩ = some (.int .i64 p2) := keep1 ⟨rfl, rfl, rfl, Nat.le_refl _, fun _ _ => rfl⟩ b1
     have lb4 := cell_lt r4
     have ET := hide hT
     clear hT
     generalize wr.drewN nq = W4 at *
     go_wp2_with (at_builtin; refine zu ?_)
     refine hide ?_
     refine wpList_append_own _ rfl _ _ 23 rfl w.heap.size 30 iP _ 2 16 Try.underlying23 hi1 hy0 hy1 hy2 rfl (by decide) _ _ _ rfl ((zu HRF).alloc _) _ 1 1 ([p1, p2].map (Value.int .i64)) rfl rfl (by first | exact news_cells _ _ rfl | exact news_cells _ _ (by simp) | exact news_drew _ _ (by simp)) ints_one (by unfold maxLen; omega) (by omega) (by simp; omega) ?_
     intro v' wz hown' hgrow _
     have R := hide (own_more (wr := W4) (news := [p1, p2]) (by repeat (first | exact Below.refl _ _ | refine Below.alloc ?_ (by first | omega | (simp; omega)) _ | refine Below.drew ?_)) (by simp; omega) (zu HRF) hown' hgrow)
     clear hown' hgrow
     go_wp2_with fail
     go_roundw
     case rel =>
      have H : ∃ i' : Nat, Value.int .i64 ((i : Int) + 1) = .int .i64 (i' : Int) ∧ i' ≤ L.length ∧ (∀ q ∈ halfR (L.take i'), ptOk q = true) ∧ Row wz w.heap.size 30 2 v' (halfR (L.take i')).length (flat2 (halfR (L.take i')).reverse) ∧ Below w.heap.size w wz := by
       refine ⟨i + 1, by simp, by omega, ?_, ?_, (zu HBF).trans (zu R).2⟩
       ·rw [zu HS, ← zu HPF]
        intro q hq
        rcases List.mem_cons.1 hq with rfl | hq
        ·exact zu HKP
        ·exact zu HMF q hq
       ·rw [zu HS, ← zu HPF, List.reverse_cons, flat2_app, List.length_cons]
        exact (zu R).1
      first | exact H | ((repeat apply Exists.intro); refine ⟨?_, rfl⟩; exact H)
     case measure => simp only [intOf]; omega
  ·have iz : decide ((i : Int) < (L.length : Int)) = false := decide_eq_false (by omega)
   have en : i = L.length := by omega
   subst en
   have HF : Hid (∃ v, Row wr w.heap.size 30 2 v (half L).length (flat2 (half L))) := hide ⟨_, by have := zu HRW; rw [List.take_length] at this; unfold half; rw [List.length_reverse]; exact this⟩
   go_wp2_with fail
   go_ret
   exact ⟨_, rfl, by have := zu HRW; rw [List.take_length] at this; unfold half; rw [List.length_reverse]; exact this, zu HW⟩
def slenV (v : Value) : Nat := match v with | .slice _ l _ => l | _ => 0
set_option maxHeartbeats 4000000 in
set_option maxRecDepth 100000 in
theorem halfM_any (b cap : Nat) (L : List Pt) (w : World) (hn : L.length ≤ 4096) (hne : L ≠ []) (hb : b < w.heap.size) (hok : ∀ p ∈ L, ptOk p = true) (hI : IntsAt w b 0 (flat2 L)) :
  Calls Try.prog 59 #[.slice (some ⟨b, 0, none⟩) L.length cap] w fun e w' => ∃ v, e = .returned v ∧ Row w' w.heap.size 30 2 v (half L).dropLast.length (flat2 (half L).dropLast) ∧ Below w.heap.size w w' := by
 obtain ⟨iP, hi1, hy0, hy1, hy2⟩ := info_parts info26
 have HOK := hide hok
 have HI := hide hI
 have HNE := hide hne
 clear hok hI hne
 go_enter Try.func59, Try.ntmps59
 go_wp2_with fail
 go_loopw [3, 4] (fun v s W => ∃ i : Nat, s = .int .i64 (i : Int) ∧ i ≤ L.length ∧ (∀ q ∈ halfR (L.take i), ptOk q = true) ∧ Row W w.heap.size 30 2 v (halfR (L.take i)).length (flat2 (halfR (L.take i)).reverse) ∧ Below w.heap.size w W) (fun _ s _ => L.length - (intOf s).toNat)
 case atStart => exact ⟨0, rfl, by omega, (fun q hq => by cases hq), row_made _ 30 _ 2 (by simp) _ (by simp), ba (Below.refl _ _) _⟩
 case round =>
  obtain ⟨i, rfl, hi, hmem, hrow, hw⟩ := hrel
  have HM := hide hmem
  have HRW := hide hrow
  have HW := hide hw
  have hszw := hw.size
  clear hmem hrow hw
  by_cases h : i < L.length
  ·have iz : decide ((i : Int) < (L.length : Int)) = true := decide_eq_true (by omega)
   have i1 : (i : Int) < (L.length : Int) := by omega
   have i0 : (0 : Int) ≤ (i : Int) := by omega
   obtain ⟨p1, p2, hp⟩ : ∃ p1 p2 : Int, L[i]? = some (p1, p2) := ⟨_, _, List.getElem?_eq_getElem h⟩
   have kp := zu HOK _ (List.mem_of_getElem? hp)
   have HC : Hid (∀ W, Below w.heap.size w W → W.cell? ⟨b, i * 2, none⟩ = some (.int .i64 p1) ∧ W.cell? ⟨b, i * 2 + 1, none⟩ = some (.int .i64 p2)) := hide (fun W hW => by
    have hIw := (zu HI).below hW hb
    have c0 := hIw _ _ (flat2_at hp).1
    have c1 := hIw _ _ (flat2_at hp).2
    rw [Nat.zero_add] at c0 c1
    exact ⟨c0, c1⟩)
   have HS := hide (halfR_succ hp)
   have HLE := hide (halfR_le (L.take i))
   have hle : (halfR (L.take i)).length ≤ L.length := by have := zu HLE; rw [List.length_take] at this; omega
   have HKP := hide kp
   obtain ⟨u, c, rfl, _⟩ := (zu HRW).form
   have wi : IntKind.i64.wrap ((i : Int) + 1) = (i : Int) + 1 := wrap_i (by omega) (by omega)
   clear hp kp
   generalize halfR (L.take i) = rs0 at *
   go_wp2_with fail
   go_loopw [3] (fun v W => ∃ rs : List Pt, rs.length ≤ rs0.length ∧ popR rs (p1, p2) = popR rs0 (p1, p2) ∧ (∀ q ∈ rs, ptOk q = true) ∧ Row W w.heap.size 30 2 v rs.length (flat2 rs.reverse) ∧ Below w.heap.size w W) (fun v _ => slenV v)
   case atStart => exact ⟨rs0, Nat.le_refl _, rfl, zu HM, zu HRW, zu HW⟩
   case round =>
    obtain ⟨rs, hrl, hpop, hmem2, hrow2, hw2⟩ := hrel
    have HP2 := hide hpop
    have HM2 := hide hmem2
    have HR2 := hide hrow2
    have HW2 := hide hw2
    have hsz2 := hw2.size
    obtain ⟨b0, b1⟩ := zu HC _ hw2
    have lb := cell_lt b0
    obtain ⟨ku, kc, rfl, _⟩ := hrow2.form
    clear hpop hmem2 hrow2 hw2
    by_cases h2 : 2 ≤ rs.length
    ·obtain ⟨b', a', t, rfl⟩ : ∃ b' a' t, rs = b' :: a' :: t := by
      cases rs with
      | nil => simp at h2
      | cons x rs =>
       cases rs with
       | nil => simp at h2
       | cons y rs => exact ⟨x, y, rs, rfl⟩
     obtain ⟨b1', b2'⟩ := b'
     obtain ⟨a1', a2'⟩ := a'
     obtain ⟨gk, kc', hvk, hgk1, hgk2, hik, hkc, hkc2⟩ := (zu HR2).full (by omega)
     cases hvk
     have tt := top_two (a1', a2') (b1', b2') t
     have fa := flat2_at tt.1
     have fb := flat2_at tt.2.1
     have qa0 := hik _ _ fa.1
     have qa1 := hik _ _ fa.2
     have qb0 := hik _ _ fb.1
     have qb1 := hik _ _ fb.2
     rw [Nat.zero_add] at qa0 qa1 qb0 qb1
     have ka := zu HM2 _ (List.mem_cons_of_mem _ List.mem_cons_self)
     have kb := zu HM2 _ List.mem_cons_self
     have HTU := hide (fun W => side_any (a1', a2') (b1', b2') (p1, p2) W ka kb (zu HKP))
     have HTT := hide tt.2.2
     obtain ⟨M2, hM2⟩ : ∃ M2 : Nat, M2 = t.length := ⟨_, rfl⟩
     obtain ⟨M1, hM1⟩ : ∃ M1 : Nat, M1 = t.length + 1 := ⟨_, rfl⟩
     rw [← hM2] at qa0 qa1
     rw [← hM1] at qb0 qb1
     have hml : ((b1', b2') :: (a1', a2') :: t).length = t.length + 2 := rfl
     generalize hm : ((b1', b2') :: (a1', a2') :: t).length = m at *
     have w2 : IntKind.i64.wrap ((m : Int) - 2) = (M2 : Int) := by rw [show (m : Int) - 2 = (M2 : Int) by omega]; exact wrap_i (by omega) (by omega)
     have w1 : IntKind.i64.wrap ((m : Int) - 1) = (M1 : Int) := by rw [show (m : Int) - 1 = (M1 : Int) by omega]; exact wrap_i (by omega) (by omega)
     have d2 : decide ((2 : Int) ≤ (m : Int)) = true := decide_eq_true (by omega)
     have j1 : (M2 : Int) < (m : Int) := by omega
     have j2 : (0 : Int) ≤ (M2 : Int) := by omega
     have j3 : (M1 : Int) < (m : Int) := by omega
     have j4 : (0 : Int) ≤ (M1 : Int) := by omega
     have j5 : (M1 : Int) ≤ (kc : Int) := by omega
     have EM1 := hide hM1
     have EM2 := hide hM2
     have EML := hide hml
     have EM := hide hm
     clear hik tt fa fb ka kb hM1 hM2 hml hm
     generalize hsd : side (a1', a2') (b1', b2') (p1, p2) = sd at *
     have ESD := hide hsd
     clear hsd
     go_wp2_with fail
     go_region_held3 (fun wx => wx.cell? ⟨gk, M2 * 2, none⟩ = some (.int .i64 a1') ∧ wx.cell? ⟨gk, M2 * 2 + 1, none⟩ = some (.int .i64 a2') ∧ wx.cell? ⟨gk, M1 * 2, none⟩ = some (.int .i64 b1') ∧ wx.cell? ⟨gk, M1 * 2 + 1, none⟩ = some (.int .i64 b2') ∧ wx.cell? ⟨b, i * 2, none⟩ = some (.int .i64 p1) ∧ wx.cell? ⟨b, i * 2 + 1, none⟩ = some (.int .i64 p2))
      (simp (maxDischargeDepth := 12) [go_sem, le1, lt1, *])
      (first
      | (go_at_call 31; refine (zu HTU _).mono ?_; rintro e W4 ⟨rfl, hb4⟩; have HB4 : Hid (Below wr.heap.size wr W4) := hide (by first | exact hb4 | exact bc (Below.drew (Below.refl _ _)) hb4); have r0 := keep1 (zu HB4) qa0; have r1 := keep1 (zu HB4) qa1; have r2 := keep1 (zu HB4) qb0; have r3 := keep1 (zu HB4) qb1; have r4 := keep1 (zu HB4) b0; have r5 := keep1 (zu HB4) b1; clear hb4))
     by_cases hs : sd ≤ 0
     ·have d3 : decide (sd ≤ 0) = true := decide_eq_true hs
      have hs' : side (a1', a2') (b1', b2') (p1, p2) ≤ 0 := by rw [zu ESD]; exact hs
      have HRN : Hid (Row W4 w.heap.size 30 2 (.slice (some ⟨gk, 0, none⟩) M1 kc) M1 (flat2 ((a1', a2') :: t).reverse)) := hide (by have := ((zu HR2).below (zu HB4)).pop (m := M1) (by omega); rw [flat2_take] at this; have e := zu HTT; rw [← zu EM1] at e; rw [e] at this; exact this)
      have HPN := hide ((popR_go (t := t) hs').symm.trans (zu HP2))
      clear hs'
      go_wp2_with fail
      go_roundw
      case rel =>
       have H : ∃ rs : List Pt, rs.length ≤ rs0.length ∧ popR rs (p1, p2) = popR rs0 (p1, p2) ∧ (∀ q ∈ rs, ptOk q = true) ∧ Row W4 w.heap.size 30 2 (.slice (some ⟨gk, 0, none⟩) M1 kc) rs.length (flat2 rs.reverse) ∧ Below w.heap.size w W4 :=
         ⟨(a1', a2') :: t, by have := zu EML; have := zu EM1; simp; omega, zu HPN, fun q hq => zu HM2 q (List.mem_cons_of_mem _ hq), by have := zu HRN; rw [show ((a1', a2') :: t).length = M1 from (zu EM1).symm]; exact this, bc (zu HW2) (zu HB4)⟩
       first | exact H | ((repeat apply Exists.intro); refine ⟨?_, rfl⟩; exact H)
      case measure => simp only [slenV]; omega
     ·have d3 : decide (sd ≤ 0) = false := decide_eq_false hs
      have hs' : ¬ side (a1', a2') (b1', b2') (p1, p2) ≤ 0 := by rw [zu ESD]; exact hs
      have d5 : 0 < sd := by omega
      have HRF : Hid (Row W4 w.heap.size 30 2 (.slice (some ⟨gk, 0, none⟩) m kc) m (flat2 ((b1', b2') :: (a1', a2') :: t).reverse)) := hide ((zu HR2).below (zu HB4))
      have HPF : Hid ((b1', b2') :: (a1', a2') :: t = popR rs0 (p1, p2)) := hide ((popR_stop hs').symm.trans (zu HP2))
      have HMF := HM2
      have HBF : Hid (Below w.heap.size w W4) := hide (bc (zu HW2) (zu HB4))
      have lb4 := cell_lt r4
      have hsz4 := (zu HBF).size
      clear r0 r1 r2 r3 qa0 qa1 qb0 qb1 hs'
      generalize (some (⟨gk, 0, none⟩ : Addr)) = kx at *
      go_wp2_with (at_builtin; refine zu ?_)
      refine hide ?_
      refine wpList_append_own _ rfl _ _ 23 rfl w.heap.size 30 iP _ 2 16 Try.underlying23 hi1 hy0 hy1 hy2 rfl (by decide) _ _ _ rfl ((zu HRF).alloc _) _ 1 1 ([p1, p2].map (Value.int .i64)) rfl rfl (by first | exact news_cells _ _ rfl | exact news_cells _ _ (by simp) | exact news_drew _ _ (by simp)) ints_one (by unfold maxLen; omega) (by omega) (by simp; omega) ?_
      intro v' wz hown' hgrow _
      have R := hide (own_more (wr := W4) (news := [p1, p2]) (by repeat (first | exact Below.refl _ _ | refine Below.alloc ?_ (by first | omega | (simp; omega)) _ | refine Below.drew ?_)) (by simp; omega) (zu HRF) hown' hgrow)
      clear hown' hgrow
      go_wp2_with fail
      go_roundw
      case rel =>
       have H : ∃ i' : Nat, Value.int .i64 ((i : Int) + 1) = .int .i64 (i' : Int) ∧ i' ≤ L.length ∧ (∀ q ∈ halfR (L.take i'), ptOk q = true) ∧ Row wz w.heap.size 30 2 v' (halfR (L.take i')).length (flat2 (halfR (L.take i')).reverse) ∧ Below w.heap.size w wz := by
        refine ⟨i + 1, by simp, by omega, ?_, ?_, (zu HBF).trans (zu R).2⟩
        ·rw [zu HS, ← zu HPF]
         intro q hq
         rcases List.mem_cons.1 hq with rfl | hq
         ·exact zu HKP
         ·exact zu HMF q hq
        ·rw [zu HS, ← zu HPF, List.reverse_cons, flat2_app, List.length_cons, zu EM]
         exact (zu R).1
       first | exact H | ((repeat apply Exists.intro); refine ⟨?_, rfl⟩; exact H)
      case measure => simp only [intOf]; omega
    ·have d2 : decide ((2 : Int) ≤ (rs.length : Int)) = false := decide_eq_false (by omega)
     have HPF : Hid (rs = popR rs0 (p1, p2)) := hide ((popR_short (by omega)).symm.trans (zu HP2))
     have HMF := HM2
     go_wp2_with fail
     go_quiet (fail)
     have HRF : Hid (Row (wr.drewN nq) w.heap.size 30 2 (.slice ku rs.length kc) rs.length (flat2 rs.reverse)) := hide ((zu HR2).below ⟨rfl, rfl, rfl, Nat.le_refl _, fun _ _ => rfl⟩)
     have HBF : Hid (Below w.heap.size w (wr.drewN nq)) := hide (bc (zu HW2) ⟨rfl, rfl, rfl, Nat.le_refl _, fun _ _ => rfl⟩)
     have hszd : w.heap.size ≤ (wr.drewN nq).heap.size := hsz2
     have r4 : (wr.drewN nq).cell? ⟨b, i * 2, none⟩ = some (.int .i64 p1) := keep1 ⟨rfl, rfl, rfl, Nat.le_refl _, fun _ _ => rfl⟩ b0
     have r5 : (wr.drewN nq).cell? ⟨b, i * 2 + 1, none⟩ = some (.int .i64 p2) := keep1 ⟨rfl, rfl, rfl, Nat.le_refl _, fun _ _ => rfl⟩ b1
     have lb4 := cell_lt r4
     generalize wr.drewN nq = W4 at *
     go_wp2_with (at_builtin; refine zu ?_)
     refine hide ?_
     refine wpList_append_own _ rfl _ _ 23 rfl w.heap.size 30 iP _ 2 16 Try.underlying23 hi1 hy0 hy1 hy2 rfl (by decide) _ _ _ rfl ((zu HRF).alloc _) _ 1 1 ([p1, p2].map (Value.int .i64)) rfl rfl (by first | exact news_cells _ _ rfl | exact news_cells _ _ (by simp) | exact news_drew _ _ (by simp)) ints_one (by unfold maxLen; omega) (by omega) (by simp; omega) ?_
     intro v' wz hown' hgrow _
     have R := hide (own_more (wr := W4) (news := [p1, p2]) (by repeat (first | exact Below.refl _ _ | refine Below.alloc ?_ (by first | omega | (simp; omega)) _ | refine Below.drew ?_)) (by simp; omega) (zu HRF) hown' hgrow)
     clear hown' hgrow
     go_wp2_with fail
     go_roundw
     case rel =>
      have H : ∃ i' : Nat, Value.int .i64 ((i : Int) + 1) = .int .i64 (i' : Int) ∧ i' ≤ L.length ∧ (∀ q ∈ halfR (L.take i'), ptOk q = true) ∧ Row wz w.heap.size 30 2 v' (halfR (L.take i')).length (flat2 (halfR (L.take i')).reverse) ∧ Below w.heap.size w wz := by
       refine ⟨i + 1, by simp, by omega, ?_, ?_, (zu HBF).trans (zu R).2⟩
       ·rw [zu HS, ← zu HPF]
        intro q hq
        rcases List.mem_cons.1 hq with rfl | hq
        ·exact zu HKP
        ·exact zu HMF q hq
       ·rw [zu HS, ← zu HPF, List.reverse_cons, flat2_app, List.length_cons]
        exact (zu R).1
      first | exact H | ((repeat apply Exists.intro); refine ⟨?_, rfl⟩; exact H)
     case measure => simp only [intOf]; omega
  ·have iz : decide ((i : Int) < (L.length : Int)) = false := decide_eq_false (by omega)
   have en : i = L.length := by omega
   subst en
   have HRF : Hid (Row wr w.heap.size 30 2 _ (half L).length (flat2 (half L))) := hide (by have := zu HRW; rw [List.take_length] at this; unfold half; rw [List.length_reverse]; exact this)
   have hpos := half_pos L (zu HNE)
   have HLE := hide (halfR_le L)
   have hle : (half L).length ≤ L.length := by have := zu HLE; unfold half; rw [List.length_reverse]; exact this
   clear HRW
   obtain ⟨gk, kc, hvk, hgk1, hgk2, hik, hkc, hkc2⟩ := (zu HRF).full (by omega)
   subst hvk
   have HPO : Hid (Row wr w.heap.size 30 2 (.slice (some ⟨gk, 0, none⟩) (half L).dropLast.length kc) (half L).dropLast.length (flat2 (half L).dropLast)) := hide (by
    have := (zu HRF).pop (m := (half L).length - 1) (by omega)
    rw [flat2_take, ← List.dropLast_eq_take] at this
    rw [List.length_dropLast]
    exact this)
   have hdl : (half L).dropLast.length = (half L).length - 1 := List.length_dropLast
   generalize hD : (half L).dropLast.length = D at *
   have ED := hide hD
   clear hD
   generalize (half L).length = H at *
   have w1 : IntKind.i64.wrap ((H : Int) - 1) = (D : Int) := by rw [show (H : Int) - 1 = (D : Int) by omega]; exact wrap_i (by omega) (by omega)
   have j4 : (0 : Int) ≤ (D : Int) := by omega
   have j5 : (D : Int) ≤ (kc : Int) := by omega
   clear hik hdl
   go_wp2_with fail
   go_ret
   exact ⟨_, rfl, by rw [zu ED]; exact zu HPO, zu HW⟩
theorem gcd_step (a b : Int) : Nat.gcd b.natAbs (a.tmod b).natAbs = Nat.gcd a.natAbs b.natAbs := by
 rw [Int.natAbs_tmod, Nat.gcd_comm, ← Nat.gcd_rec, Nat.gcd_comm]
theorem tmod_lt (a b : Int) (h : b ≠ 0) : (a.tmod b).natAbs < b.natAbs := by
 rw [Int.natAbs_tmod]; exact Nat.mod_lt _ (by omega)
theorem tmod_le (a b : Int) : (a.tmod b).natAbs ≤ a.natAbs := by
 rw [Int.natAbs_tmod]; exact Nat.mod_le _ _
theorem tmod_neg (a b : Int) (h : a ≤ 0) : a.tmod b ≤ 0 := by
 have : -a.tmod b = (-a).tmod b := by rw [Int.neg_tmod]
 have h2 := Int.tmod_nonneg b (a := -a) (by omega)
 omega
theorem tmod_bd (a b : Int) (ha : -9223372036854775808 ≤ a ∧ a ≤ 9223372036854775807) :
  -9223372036854775808 ≤ a.tmod b ∧ a.tmod b ≤ 9223372036854775807 := by
 have h1 := tmod_le a b
 by_cases h0 : 0 ≤ a
 ·have := Int.tmod_nonneg b h0; omega
 ·have := tmod_neg a b (by omega); omega
theorem abs_any (n : Int) (w : World) (h1 : -9223372036854775807 ≤ n) (h2 : n ≤ 9223372036854775807) :
  Calls Try.prog 57 #[.int .i64 n] w fun e w' => e = .returned (.int .i64 (n.natAbs : Int)) ∧ w' = w := by
 by_cases hn : n < 0
 ·go_enter Try.func57, Try.ntmps57
  go_wp2
  go_ret
  exact ⟨ret_int (by omega), rfl⟩
 ·go_enter Try.func57, Try.ntmps57
  go_wp2
  go_ret
  exact ⟨ret_int (by omega), rfl⟩
set_option maxHeartbeats 400000 in
theorem gcd_any (a b : Int) (w : World) (ha1 : -9223372036854775808 ≤ a) (ha2 : a ≤ 9223372036854775807) (hb1 : -9223372036854775808 ≤ b) (hb2 : b ≤ 9223372036854775807) :
  Calls Try.prog 91 #[.int .i64 a, .int .i64 b] w fun e w' => (∃ r : Int, e = .returned (.int .i64 r) ∧ r.natAbs = Nat.gcd a.natAbs b.natAbs ∧ -9223372036854775808 ≤ r ∧ r ≤ 9223372036854775807) ∧ w' = w := by
 go_enter Try.func91, Try.ntmps91
 go_wp2
 go_loop [0, 1] (fun s t => ∃ x y : Int, s = .int .i64 x ∧ t = .int .i64 y ∧ Nat.gcd x.natAbs y.natAbs = Nat.gcd a.natAbs b.natAbs ∧ -9223372036854775808 ≤ x ∧ x ≤ 9223372036854775807 ∧ -9223372036854775808 ≤ y ∧ y ≤ 9223372036854775807) (fun _ t => (intOf t).natAbs)
 case atStart => exact ⟨a, b, rfl, rfl, rfl, ha1, ha2, hb1, hb2⟩
 case round =>
  obtain ⟨x, y, rfl, rfl, hg, hx1, hx2, hy1, hy2⟩ := hrel
  have HG := hide hg
  clear hg
  by_cases hy : y = 0
  ·have hb : (y != 0) = false := by simp [hy]
   have hb' : (y == 0) = true := by simp [hy]
   have HY := hide hy
   clear hy
   go_wp2
   go_ret
   exact ⟨⟨x, rfl, by have := zu HG; rw [zu HY] at this; simpa using this, hx1, hx2⟩, rfl⟩
  ·have hb : (y != 0) = true := by simp [hy]
   have hb' : (y == 0) = false := by simp [hy]
   have hbd := tmod_bd x y ⟨hx1, hx2⟩
   have hlt := tmod_lt x y hy
   have HG2 : Hid (Nat.gcd y.natAbs (x.tmod y).natAbs = Nat.gcd a.natAbs b.natAbs) := hide ((gcd_step x y).trans (zu HG))
   go_wp2
   go_round
   case rel => exact ⟨y, x.tmod y, rfl, rfl, zu HG2, hy1, hy2, hbd.1, hbd.2⟩
   case measure => simp only [intOf]; exact hlt
theorem wrap_neg (n : Int) (h1 : -9223372036854775808 ≤ n) (h2 : n < 0) : IntKind.u64.wrap (-IntKind.u64.wrap n) = (n.natAbs : Int) := by
 simp only [IntKind.wrap, IntKind.bits, IntKind.signed]
 simp
 omega
theorem mag_any (n : Int) (w : World) (h1 : -9223372036854775808 ≤ n) (h2 : n ≤ 9223372036854775807) :
  Calls Try.prog 98 #[.int .i64 n] w fun e w' => e = .returned (.int .u64 (n.natAbs : Int)) ∧ w' = w := by
 by_cases hn : n < 0
 ·go_enter Try.func98, Try.ntmps98
  go_wp2
  go_ret
  exact ⟨ret_int (wrap_neg n h1 hn), rfl⟩
 ·go_enter Try.func98, Try.ntmps98
  go_wp2
  go_ret
  exact ⟨ret_int (by omega), rfl⟩
set_option maxHeartbeats 400000 in
theorem com_any (a b : Nat) (w : World) (ha : a ≤ 9223372036854775808) (hb : b ≤ 9223372036854775808) :
  Calls Try.prog 97 #[.int .u64 (a : Int), .int .u64 (b : Int)] w fun e w' => e = .returned (.int .u64 (Nat.gcd a b : Int)) ∧ ∃ q, w' = w.drewN q := by
 go_enter Try.func97, Try.ntmps97
 go_wp2
 go_loopw [0, 1] (fun s t w' => ∃ x y q : Nat, s = .int .u64 (x : Int) ∧ t = .int .u64 (y : Int) ∧ Nat.gcd x y = Nat.gcd a b ∧ x ≤ 9223372036854775808 ∧ y ≤ 9223372036854775808 ∧ w' = w.drewN q) (fun _ t _ => (intOf t).natAbs)
 case atStart => exact ⟨a, b, 0, rfl, rfl, rfl, ha, hb, rfl⟩
 case round =>
  obtain ⟨x, y, q, rfl, rfl, hg, hx, hy, rfl⟩ := hrel
  have HG := hide hg
  clear hg
  by_cases h0 : y = 0
  ·subst h0
   go_wp2
   go_ret
   exact ⟨ret_int (by rw [← zu HG, Nat.gcd_zero_right]), q, rfl⟩
  ·have hb : ((y : Int) != 0) = true := by simp; omega
   have hb' : ((y : Int) == 0) = false := by simp; omega
   have hlt : x % y < y := Nat.mod_lt _ (by omega)
   have HG2 : Hid (Nat.gcd y (x % y) = Nat.gcd a b) := hide (by rw [Nat.gcd_comm, ← Nat.gcd_rec, Nat.gcd_comm]; exact zu HG)
   go_wp2
   go_region
   all_goals
    go_wp2
    go_roundw
    case rel => exact ⟨y, x % y, q + 1, rfl, by go_num, zu HG2, hy, by omega, rfl⟩
    case measure => simp only [intOf]; omega
theorem redG_le (x y d : Int) (h : d ≠ 0) : 1 ≤ redG x y d ∧ redG x y d ≤ d.natAbs := by
 unfold redG
 exact ⟨Nat.gcd_pos_of_pos_right _ (by omega), Nat.gcd_le_right _ (by omega)⟩
theorem tdiv_bd (x : Int) (g A : Nat) (h1 : -(A : Int) ≤ x) (h2 : x ≤ A) : -(A : Int) ≤ x.tdiv g ∧ x.tdiv g ≤ A := by
 have h : (x.tdiv (g : Int)).natAbs ≤ x.natAbs := by
  rw [Int.natAbs_tdiv]
  exact Nat.div_le_self _ _
 omega
theorem bdN {B : Nat} {w W : World} (h : Below B w W) (q : Nat) : Below B w (W.drewN q) := by
 induction q with
 | zero => exact h
 | succ q ih => exact ih.drew
abbrev spv (s : Sp) : Value := .agg #[.int .i64 s.1, .int .i64 s.2.1, .int .i64 s.2.2]
set_option maxRecDepth 100000 in
set_option maxHeartbeats 1000000 in
theorem spotP (x y d : Int) (w : World) (hd : 0 < d) (hd2 : d ≤ 1000000000000000000) (hx : -1000000000000000000 ≤ x ∧ x ≤ 1000000000000000000) (hy : -1000000000000000000 ≤ y ∧ y ≤ 1000000000000000000) :
  Calls Try.prog 88 #[.int .i64 x, .int .i64 y, .int .i64 d] w fun e w' => e = .returned (spv (red x y d)) ∧ Below w.heap.size w w' := by
 obtain ⟨g1, g2⟩ := redG_le x y d (by omega)
 obtain ⟨x1, x2⟩ := hx
 obtain ⟨y1, y2⟩ := hy
 have bx := tdiv_bd x (redG x y d) 1000000000000000000 (by omega) (by omega)
 have by' := tdiv_bd y (redG x y d) 1000000000000000000 (by omega) (by omega)
 have bd := tdiv_bd d (redG x y d) 1000000000000000000 (by omega) (by omega)
 show Calls Try.prog 88 #[.int .i64 x, .int .i64 y, .int .i64 d] w fun e w' => e = .returned (.agg #[.int .i64 (x.tdiv (redG x y d)), .int .i64 (y.tdiv (redG x y d)), .int .i64 (d.tdiv (redG x y d))]) ∧ Below w.heap.size w w'
 have hG : Nat.gcd (Nat.gcd x.natAbs y.natAbs) d.natAbs = redG x y d := rfl
 generalize redG x y d = G at *
 have gb : Nat.gcd x.natAbs y.natAbs ≤ 1000000000000000000 := by
  by_cases h0 : x.natAbs = 0
  ·rw [h0, Nat.gcd_zero_left]; omega
  ·exact Nat.le_trans (Nat.gcd_le_left _ (by omega)) (by omega)
 have HG := hide hG
 clear hG
 have hg1 : ((G : Int) == -1) = false := beq_false_of_ne (by omega)
 have hg0 : ((G : Int) == 0) = false := beq_false_of_ne (by omega)
 have w1 : wrap64 (x.tdiv (G : Int)) = x.tdiv (G : Int) := IntWalk.wrap64_in _ ⟨by omega, by omega⟩
 have w2 : wrap64 (y.tdiv (G : Int)) = y.tdiv (G : Int) := IntWalk.wrap64_in _ ⟨by omega, by omega⟩
 have w3 : wrap64 (d.tdiv (G : Int)) = d.tdiv (G : Int) := IntWalk.wrap64_in _ ⟨by omega, by omega⟩
 go_enter Try.func88, Try.ntmps88
 go_wp2_with fail
 refine (mag_any _ _ (by omega) (by omega)).mono ?_
 rintro e w' ⟨rfl, rfl⟩
 go_wp2_with fail
 refine (mag_any _ _ (by omega) (by omega)).mono ?_
 rintro e w' ⟨rfl, rfl⟩
 go_wp2_with fail
 refine (com_any _ _ _ (by omega) (by omega)).mono ?_
 rintro e w' ⟨rfl, q1, rfl⟩
 go_wp2_with fail
 refine (mag_any _ _ (by omega) (by omega)).mono ?_
 rintro e w' ⟨rfl, rfl⟩
 go_wp2_with fail
 refine (com_any _ _ _ (by omega) (by omega)).mono ?_
 rintro e w' ⟨rfl, q2, rfl⟩
 rw [zu HG]
 clear gb HG
 go_wp2_with fail
 go_region
 all_goals
  go_wp2_with fail
  refine bodyPost_ret (v := .agg #[.int .i64 (x.tdiv (G : Int)), .int .i64 (y.tdiv (G : Int)), .int .i64 (d.tdiv (G : Int))]) (by simp [results, Try.results88, go_sem]) rfl ⟨rfl, ?_⟩
  repeat (first | exact Below.refl _ _ | refine Below.setCell ?_ (by simp) _ | refine ba ?_ _ | refine Below.drew ?_ | refine bdN ?_ _)
set_option maxRecDepth 100000 in
set_option maxHeartbeats 1000000 in
theorem spotM_core (x y d : Int) (X Y D : Int) (G : Nat) (w : World) (hd : d ≠ 0) (hd2 : -1000000000000000000 ≤ d ∧ d ≤ 1000000000000000000) (hx : -1000000000000000000 ≤ x ∧ x ≤ 1000000000000000000) (hy : -1000000000000000000 ≤ y ∧ y ≤ 1000000000000000000)
  (g1 : 1 ≤ G) (g2 : G ≤ 1000000000000000000) (HG : Hid (Nat.gcd (Nat.gcd X.natAbs Y.natAbs) D.natAbs = G)) (gb : Nat.gcd X.natAbs Y.natAbs ≤ 1000000000000000000) (hc : d < 0 ∧ X = -x ∧ Y = -y ∧ D = -d ∨ ¬ d < 0 ∧ X = x ∧ Y = y ∧ D = d) (QX QY QD : Int) (eX : X.tdiv (G : Int) = QX) (eY : Y.tdiv (G : Int) = QY) (eD : D.tdiv (G : Int) = QD)
  (w1 : wrap64 QX = QX) (w2 : wrap64 QY = QY) (w3 : wrap64 QD = QD) :
  Calls Try.prog 70 #[.int .i64 x, .int .i64 y, .int .i64 d] w fun e w' => e = .returned (.agg #[.int .i64 QX, .int .i64 QY, .int .i64 QD]) ∧ Below w.heap.size w w' := by
 have hg1 : ((G : Int) == -1) = false := beq_false_of_ne (by omega)
 have hg0 : ((G : Int) == 0) = false := beq_false_of_ne (by omega)
 obtain ⟨x1, x2⟩ := hx
 obtain ⟨y1, y2⟩ := hy
 obtain ⟨d1, d2⟩ := hd2
 rcases hc with ⟨hn, rfl, rfl, rfl⟩ | ⟨hn, rfl, rfl, rfl⟩
 all_goals
  go_enter Try.func70, Try.ntmps70
  go_wp2_with fail
  refine (gcd_any _ _ _ (by omega) (by omega) (by omega) (by omega)).mono ?_
  rintro e w' ⟨⟨r, rfl, hr, hr1, hr2⟩, rfl⟩
  have HR := hide hr
  clear hr
  go_wp2_with fail
  refine (gcd_any _ _ _ (by omega) (by omega) (by omega) (by omega)).mono ?_
  rintro e w' ⟨⟨r2, rfl, hr3, hr4, hr5⟩, rfl⟩
  rw [zu HR, zu HG] at hr3
  have hr6 : -9223372036854775807 ≤ r2 := by omega
  have hr7 : (r2.natAbs : Int) = (G : Int) := by omega
  clear hr3 HR HG gb
  go_wp2_with fail
  refine (abs_any _ _ hr6 (by omega)).mono ?_
  rintro e w' ⟨rfl, rfl⟩
  rw [hr7]
  clear hr7 hr6 hr4 hr5 hr1 hr2
  go_wp2_with fail
  go_region
  all_goals
   go_wp2_with fail
   refine bodyPost_ret (v := .agg #[.int .i64 QX, .int .i64 QY, .int .i64 QD]) (by simp [results, Try.results70, go_sem]) rfl ⟨rfl, ?_⟩
   repeat (first | exact Below.refl _ _ | refine Below.setCell ?_ (by simp) _ | refine ba ?_ _ | refine Below.drew ?_ | refine bdN ?_ _)
theorem spotM (x y d : Int) (w : World) (hd : d ≠ 0) (hd2 : -1000000000000000000 ≤ d ∧ d ≤ 1000000000000000000) (hx : -1000000000000000000 ≤ x ∧ x ≤ 1000000000000000000) (hy : -1000000000000000000 ≤ y ∧ y ≤ 1000000000000000000) :
  Calls Try.prog 70 #[.int .i64 x, .int .i64 y, .int .i64 d] w fun e w' => e = .returned (spv (redM x y d)) ∧ Below w.heap.size w w' := by
 have key : ∀ X Y D : Int, (d < 0 ∧ X = -x ∧ Y = -y ∧ D = -d ∨ ¬ d < 0 ∧ X = x ∧ Y = y ∧ D = d) → Calls Try.prog 70 #[.int .i64 x, .int .i64 y, .int .i64 d] w fun e w' => e = .returned (spv (red X Y D)) ∧ Below w.heap.size w w' := by
  intro X Y D hc
  obtain ⟨g1, g2⟩ := redG_le X Y D (by omega)
  have bx := tdiv_bd X (redG X Y D) 1000000000000000000 (by omega) (by omega)
  have by' := tdiv_bd Y (redG X Y D) 1000000000000000000 (by omega) (by omega)
  have bd := tdiv_bd D (redG X Y D) 1000000000000000000 (by omega) (by omega)
  have gb : Nat.gcd X.natAbs Y.natAbs ≤ 1000000000000000000 := by
   by_cases h0 : X.natAbs = 0
   ·rw [h0, Nat.gcd_zero_left]; omega
   ·exact Nat.le_trans (Nat.gcd_le_left _ (by omega)) (by omega)
  exact spotM_core x y d X Y D (redG X Y D) w hd hd2 hx hy g1 (by omega) (hide rfl) gb hc (X.tdiv (redG X Y D : Nat)) (Y.tdiv (redG X Y D : Nat)) (D.tdiv (redG X Y D : Nat)) rfl rfl rfl (IntWalk.wrap64_in _ ⟨by omega, by omega⟩) (IntWalk.wrap64_in _ ⟨by omega, by omega⟩) (IntWalk.wrap64_in _ ⟨by omega, by omega⟩)
 unfold redM
 split
 ·exact key _ _ _ (.inl ⟨by assumption, rfl, rfl, rfl⟩)
 ·exact key _ _ _ (.inr ⟨by assumption, rfl, rfl, rfl⟩)
theorem less_ints (a1 a2 b1 b2 : Int) (w : World) :
  Calls Try.prog 75 #[.agg #[.int .i64 a1, .int .i64 a2], .agg #[.int .i64 b1, .int .i64 b2]] w fun e w' => e = .returned (.bool (ltp (a1, a2) (b1, b2))) ∧ Below w.heap.size w w' := by
 by_cases h1 : a1 < b1
 ·have b1' : decide (a1 < b1) = true := decide_eq_true h1
  have e : ltp (a1, a2) (b1, b2) = true := by simp [ltp, h1]
  rw [e]
  clear e
  go_enter Try.func75, Try.ntmps75
  go_wp2
  go_ret
  exact ⟨rfl, ba (ba (Below.refl _ _) _) _⟩
 ·have b1' : decide (a1 < b1) = false := decide_eq_false h1
  by_cases h2 : a1 = b1
  ·subst h2
   have e : ltp (a1, a2) (a1, b2) = decide (a2 < b2) := by simp [ltp]
   rw [e]
   clear e
   go_enter Try.func75, Try.ntmps75
   go_wp2
   go_ret
   exact ⟨rfl, ba (ba (Below.refl _ _) _) _⟩
  ·have b2' : (a1 == b1) = false := beq_false_of_ne h2
   have e : ltp (a1, a2) (b1, b2) = false := by simp [ltp, h1, h2]
   rw [e]
   clear e
   go_enter Try.func75, Try.ntmps75
   go_wp2
   go_ret
   exact ⟨rfl, ba (ba (Below.refl _ _) _) _⟩
def cmpI (x y : Int) : Int := if x < y then -1 else if y < x then 1 else 0
theorem nan_any (x : Int) (w : World) : Calls Try.prog 74 #[.int .i64 x] w fun e w' => e = .returned (.bool false) ∧ w' = w := by
 go_enter Try.func74, Try.ntmps74
 go_wp2
 go_ret
 exact ⟨rfl, rfl⟩
theorem compare_any (x y : Int) (w : World) : Calls Try.prog 56 #[.int .i64 x, .int .i64 y] w fun e w' => e = .returned (.int .i64 (cmpI x y)) ∧ w' = w := by
 by_cases h1 : x < y
 ·have b1 : decide (x < y) = true := decide_eq_true h1
  have e : cmpI x y = -1 := by simp [cmpI, h1]
  rw [e]
  clear e
  go_enter Try.func56, Try.ntmps56
  go_wp2_with (go_at_call 74; refine (nan_any _ _).mono ?_; rintro e w' ⟨rfl, rfl⟩)
  go_ret
  exact ⟨rfl, rfl⟩
 ·have b1 : decide (x < y) = false := decide_eq_false h1
  by_cases h2 : y < x
  ·have b2 : decide (y < x) = true := decide_eq_true h2
   have e : cmpI x y = 1 := by simp [cmpI, h1, h2]
   rw [e]
   clear e
   go_enter Try.func56, Try.ntmps56
   go_wp2_with (go_at_call 74; refine (nan_any _ _).mono ?_; rintro e w' ⟨rfl, rfl⟩)
   go_ret
   exact ⟨rfl, rfl⟩
  ·have b2 : decide (y < x) = false := decide_eq_false h2
   have e : cmpI x y = 0 := by simp [cmpI, h1, h2]
   rw [e]
   clear e
   go_enter Try.func56, Try.ntmps56
   go_wp2_with (go_at_call 74; refine (nan_any _ _).mono ?_; rintro e w' ⟨rfl, rfl⟩)
   go_ret
   exact ⟨rfl, rfl⟩
def orI (x y : Int) : Int := if x = 0 then y else x
theorem or_any (x y : Int) (b cap : Nat) (w : World) (h0 : w.cell? ⟨b, 0, none⟩ = some (.int .i64 x)) (h1 : w.cell? ⟨b, 1, none⟩ = some (.int .i64 y)) :
  Calls Try.prog 63 #[.slice (some ⟨b, 0, none⟩) 2 cap] w fun e w' => e = .returned (.int .i64 (orI x y)) ∧ w' = w := by
 go_enter Try.func63, Try.ntmps63
 go_wp2
 go_loopw [8] (fun s W => ∃ i : Nat, s = .int .i64 (i : Int) ∧ i ≤ 2 ∧ (0 < i → x = 0) ∧ (1 < i → y = 0) ∧ W = w) (fun s _ => 2 - (intOf s).toNat)
 case atStart => exact ⟨0, rfl, by omega, by omega, by omega, rfl⟩
 case round =>
  obtain ⟨i, rfl, hi, hx, hy, rfl⟩ := hrel
  have HX := hide hx
  have HY := hide hy
  clear hx hy
  obtain rfl | rfl | rfl : i = 0 ∨ i = 1 ∨ i = 2 := by omega
  ·by_cases h : x = 0
   ·have e1 : (x != 0) = false := by simp [h]
    have e2 : (x == 0) = true := by simp [h]
    have H := hide h
    clear h
    go_wp2
    go_roundw
    case rel => exact ⟨1, rfl, by omega, fun _ => zu H, by omega, by first | rfl | trivial⟩
    case measure => simp [intOf]
   ·have e1 : (x != 0) = true := by simp [h]
    have e2 : (x == 0) = false := by simp [h]
    go_wp2
    go_ret
    exact ⟨ret_int (by simp [orI, h]), rfl⟩
  ·have hx := zu HX (by omega)
   subst hx
   by_cases h : y = 0
   ·have e1 : (y != 0) = false := by simp [h]
    have e2 : (y == 0) = true := by simp [h]
    have H := hide h
    clear h
    go_wp2
    go_roundw
    case rel => exact ⟨2, rfl, by omega, by simp, fun _ => zu H, by first | rfl | trivial⟩
    case measure => simp [intOf]
   ·have e1 : (y != 0) = true := by simp [h]
    have e2 : (y == 0) = false := by simp [h]
    go_wp2
    go_ret
    exact ⟨ret_int (by simp [orI]), rfl⟩
  ·have hx := zu HX (by omega)
   have hy := zu HY (by omega)
   subst hx hy
   go_wp2
   go_ret
   exact ⟨ret_int (by simp [orI]), rfl⟩
theorem Row.sm {w : World} {B t k n : Nat} {v : Value} {L : List Int} (h : Row w B t k v n L) (hv : v ≠ .slice none 0 0) : ∃ g cap, v = .slice (some ⟨g, 0, none⟩) n cap ∧ B ≤ g ∧ g < w.heap.size ∧ n ≤ cap ∧ cap ≤ maxLen := by
 rcases h.2 with ⟨h1, _⟩ | ⟨g, cap, cur, hv', hB, hh, hn, hx, hs, ht⟩
 ·exact absurd h1 hv
 ·exact ⟨g, cap, hv', hB, (Array.getElem?_eq_some_iff.1 hh).1, hn, hx⟩
theorem Row.ints {w : World} {B t k n g cap : Nat} {L : List Int} (h : Row w B t k (.slice (some ⟨g, 0, none⟩) n cap) n L) : IntsAt w g 0 L := by
 intro j x hj
 rcases h.2 with ⟨h1, _⟩ | ⟨g', cap', cur, hv', hB, hh, hn, hx, hs, ht⟩
 ·cases h1
 ·cases hv'
  have h1 : (cur.toList.take (n * k))[j]? = some (Value.int .i64 x) := by rw [ht, List.getElem?_map, hj]; rfl
  simp only [World.cell?]
  rw [hh]
  rw [List.getElem?_take] at h1
  split at h1
  ·rw [Nat.zero_add]; simpa using h1
  ·cases h1
theorem step_own {P : Program} {w : World} {ops : Array Oper} {o : Oper} {a : Act} {K : Act → World → Prop} {Q : Exit → Act → World → Prop} {E : Prop} (hgd : o.guard = none) (s x : Operand) (t : TypeId)
  (ho : o.op = .call { callee := .builtin .append, args := #[s, x], argTypes := #[t, t] })
  (base : Nat) (e : TypeId) (i : TypeInfo) (z : Value) (size bytes : Nat) (ht : P.underlying t = .some (.slice e)) (hi : P.info? e = .some i) (hz : i.zero = .some z)
  (hsize : i.size = size) (hby : i.bytes = bytes) (hzs : z.cells.size = size) (hsz : 0 < size)
  (v : Value) (n : Nat) (xs : List Value) (hs : a.eval s = v) (hown : w.ownsRow base e size v n xs)
  (ad : Addr) (m c : Nat) (news : List Value) (hx : a.eval x = .slice (.some ad) m c) (hl : news.length = m * size) (hnews : ∀ j u, news[j]? = .some u → w.cell? (ad.add j) = .some u) (h1 : ∀ u ∈ news, u.oneCell' = true)
  (h63 : n + m ≤ maxLen) (hbytes : (n + m) * bytes ≤ 140737488355328) (hbase : base ≤ w.heap.size)
  (h : ∀ v' w', w'.ownsRow base e size v' (n + m) (xs ++ news) → w.grownBy w' v.ownBlock → (v' = .slice none 0 0 ↔ v = .slice none 0 0 ∧ m = 0) → K (a.put o.dst v') w') :
  if Region.wanted o (yielded ops a.tmps) = true then Oper.wp P o a w K Q else E := by
 rw [if_pos (by unfold Region.wanted; rw [hgd])]
 exact wp_append_own w s x t ho base e i z size bytes ht hi hz hsize hby hzs hsz v n xs hs hown ad m c news hx hl hnews h1 h63 hbytes hbase h
theorem src_cells {w : World} {b : Nat} {L : List Int} (h : IntsAt w b 0 L) (M : List Int) (o : Nat) (hM : ∀ j x, M[j]? = .some x → L[o + j]? = .some x) : ∀ (j : Nat) (u : Value), (M.map (Value.int .i64))[j]? = .some u → w.cell? ((⟨b, o, none⟩ : Addr).add j) = .some u := by
 intro j u hj
 rw [List.getElem?_map] at hj
 obtain ⟨x, hx, rfl⟩ := Option.map_eq_some_iff.1 hj
 rw [add_none]
 have := h _ _ (hM j x hx)
 rwa [Nat.zero_add] at this
theorem drop_part (L : List Int) (k : Nat) : ∀ j x, (L.drop k)[j]? = .some x → L[k + j]? = .some x := by
 intro j x hj
 rw [List.getElem?_drop] at hj
 exact hj
theorem tail_ad2 (q ck k n : Nat) (L : List Int) (hl : L.length = n * 2) (hk : k ≤ n) (hc : n ≤ ck) : ∃ ad : Addr, (if ck = k then .some (⟨q, 0, none⟩ : Addr) else .some ⟨q, k * 2, none⟩) = (.some ad : Option Addr) ∧
  ∀ W, IntsAt W q 0 L → ∀ (j : Nat) (u : Value), ((L.drop (k * 2)).map (Value.int .i64))[j]? = .some u → W.cell? (ad.add j) = .some u := by
 by_cases h : ck = k
 ·refine ⟨⟨q, 0, none⟩, if_pos h, fun W hW j u hj => ?_⟩
  rw [List.drop_eq_nil_of_le (by omega)] at hj
  cases hj
 ·exact ⟨⟨q, k * 2, none⟩, if_neg h, fun W hW => src_cells hW _ (k * 2) (drop_part _ _)⟩
theorem own_first {B t k m : Nat} {wr W2 w1 : World} {g : Nat} {v' : Value} {news : List Int} (hbel : Below B wr W2) (hB : B ≤ W2.heap.size) (hg : B ≤ g)
  (hown' : w1.ownsRow B t k v' (0 + m) (([] : List Int).map (Value.int .i64) ++ news.map (Value.int .i64))) (hgrow : W2.grownBy w1 (Value.slice (.some ⟨g, 0, none⟩) 0 0).ownBlock) :
  Row w1 B t k v' m news ∧ Below B wr w1 :=
  ⟨by have := hown'; rw [Nat.zero_add] at this; exact this, hbel.grown hgrow hB (fun j hj => by cases hj; exact hg)⟩
theorem IntsAt.blk {w w' : World} {b : Nat} {L : List Int} (h : IntsAt w b 0 L) (e : w'.heap[b]? = w.heap[b]?) : IntsAt w' b 0 L := fun j x hj => (World.cell?_of_block (w := w) (a := ⟨b, 0 + j, none⟩) e).trans (h j x hj)
theorem less_step {A : List Pt} {p : Pt} {k : Nat} (hk : k ≤ lessN A p) : (k < lessN A p → ∃ q, A[k]? = .some q ∧ ltp q p = true) ∧ (¬ k < lessN A p → k = lessN A p ∧ (k = A.length ∨ ∃ q, A[k]? = .some q ∧ ltp q p = false)) ∧ lessN A p ≤ A.length := by
 have hle : lessN A p ≤ A.length := (List.takeWhile_sublist _).length_le
 refine ⟨fun h => ?_, fun h => ⟨by omega, ?_⟩, hle⟩
 ·have h1 : k < (A.takeWhile fun a => ltp a p).length := h
  have h2 := List.getElem?_eq_getElem h1
  have h3 := List.mem_of_getElem? h2
  have h4 := List.all_eq_true.1 (List.all_takeWhile (p := fun a => ltp a p) (l := A)) _ h3
  have h5 : (A.takeWhile fun a => ltp a p)[k]? = A[k]? := by
   have := List.takeWhile_prefix (l := A) (fun a => ltp a p)
   obtain ⟨r, hr⟩ := this
   rw [← hr, List.getElem?_append_left h1]
   congr 1
   rw [hr]
  exact ⟨_, h5 ▸ h2, h4⟩
 ·by_cases he : k = A.length
  ·exact .inl he
  ·right
   have hk2 : k < A.length := by omega
   refine ⟨_, List.getElem?_eq_getElem hk2, ?_⟩
   have ek : k = lessN A p := by omega
   have hd : A.dropWhile (fun a => ltp a p) ≠ [] := by
    intro e
    have := List.takeWhile_append_dropWhile (p := fun a => ltp a p) (l := A)
    rw [e, List.append_nil] at this
    have : A.length = lessN A p := by unfold lessN; rw [this]
    omega
   have h1 := List.head_dropWhile_not (fun a => ltp a p) hd
   have h2 : A[k] = (A.dropWhile fun a => ltp a p).head hd := by
    have e := List.takeWhile_append_dropWhile (p := fun a => ltp a p) (l := A)
    have : A[k]? = ((A.takeWhile fun a => ltp a p) ++ A.dropWhile fun a => ltp a p)[k]? := by rw [e]
    rw [List.getElem?_append_right (by show lessN A p ≤ k; omega)] at this
    rw [show k - (A.takeWhile fun a => ltp a p).length = 0 by show k - lessN A p = 0; omega] at this
    rw [List.getElem?_eq_getElem hk2, ← List.head?_eq_getElem?, List.head?_eq_some_head hd] at this
    exact Option.some.inj this
   rw [h2]
   simpa using h1
set_option maxHeartbeats 8000000 in
set_option maxRecDepth 100000 in
theorem sortM_any (b cap : Nat) (L : List Pt) (w : World) (hn : L.length ≤ 4096) (hb : b < w.heap.size) (hI : IntsAt w b 0 (flat2 L)) :
  Calls Try.prog 58 #[.slice (some ⟨b, 0, none⟩) L.length cap] w fun e w' => ∃ g c, e = .returned (.slice (some ⟨g, 0, none⟩) (srtU L).length c) ∧ Row w' w.heap.size 30 2 (.slice (some ⟨g, 0, none⟩) (srtU L).length c) (srtU L).length (flat2 (srtU L)) ∧ Below w.heap.size w w' := by
 obtain ⟨iP, hi1, hy0, hy1, hy2⟩ := info_parts info26
 have HI := hide hI
 clear hI
 go_enter Try.func58, Try.ntmps58
 go_wp2_with fail
 go_loopw [3, 4] (fun v s W => ∃ (i g c : Nat), s = .int .i64 (i : Int) ∧ i ≤ L.length ∧ v = .slice (some ⟨g, 0, none⟩) ((L.take i).foldl insU []).length c ∧ ((L.take i).foldl insU []).length ≤ i ∧ Row W w.heap.size 30 2 (.slice (some ⟨g, 0, none⟩) ((L.take i).foldl insU []).length c) ((L.take i).foldl insU []).length (flat2 ((L.take i).foldl insU [])) ∧ Below w.heap.size w W) (fun _ s _ => L.length - (intOf s).toNat)
 case atStart => exact ⟨0, _, _, rfl, by omega, rfl, Nat.le_refl _, row_made _ 30 _ 2 (by simp) _ (by simp), ba (Below.refl _ _) _⟩
 case round =>
  obtain ⟨i, g, c, rfl, hi, rfl, hle, hrow, hw⟩ := hrel
  have HRW := hide hrow
  have HW := hide hw
  have hszw := hw.size
  obtain ⟨_, _, hvg, hg1, hg2, hc1, hc2⟩ := hrow.sm (by simp)
  cases hvg
  clear hrow hw
  by_cases h : i < L.length
  ·have iz : decide ((i : Int) < (L.length : Int)) = true := decide_eq_true (by omega)
   have i1 : (i : Int) < (L.length : Int) := by omega
   have i0 : (0 : Int) ≤ (i : Int) := by omega
   obtain ⟨p1, p2, hp⟩ : ∃ p1 p2 : Int, L[i]? = some (p1, p2) := ⟨_, _, List.getElem?_eq_getElem h⟩
   have HC : Hid (∀ W, Below w.heap.size w W → W.cell? ⟨b, i * 2, none⟩ = some (.int .i64 p1) ∧ W.cell? ⟨b, i * 2 + 1, none⟩ = some (.int .i64 p2)) := hide (fun W hW => by
    have hIw := (zu HI).below hW hb
    have c0 := hIw _ _ (flat2_at hp).1
    have c1 := hIw _ _ (flat2_at hp).2
    rw [Nat.zero_add] at c0 c1
    exact ⟨c0, c1⟩)
   have HS : Hid ((L.take (i + 1)).foldl insU [] = insU ((L.take i).foldl insU []) (p1, p2)) := hide (by rw [List.take_add_one, hp, List.foldl_append]; rfl)
   have wi : IntKind.i64.wrap ((i : Int) + 1) = (i : Int) + 1 := wrap_i (by omega) (by omega)
   clear hp
   generalize (L.take i).foldl insU [] = A at *
   have HLS := hide (fun k (hk : k ≤ lessN A (p1, p2)) => less_step (p := (p1, p2)) hk)
   have HAT := hide (insU_at A (p1, p2))
   generalize hln : lessN A (p1, p2) = ln at *
   clear hln
   go_wp2_with fail
   go_loopw [5] (fun s W => ∃ k : Nat, s = .int .i64 (k : Int) ∧ k ≤ ln ∧ Below wr.heap.size wr W) (fun s _ => ln - (intOf s).toNat)
   case atStart => exact ⟨0, rfl, by omega, Below.refl _ _⟩
   case round =>
    obtain ⟨k, rfl, hk, hw2⟩ := hrel
    have HW2 := hide hw2
    have HWW : Hid (Below w.heap.size w wr) := hide (bc (zu HW) hw2)
    have HR2 := hide ((zu HRW).below hw2)
    have hsz2 := hw2.size
    obtain ⟨b0, b1⟩ := zu HC _ (zu HWW)
    have lb := cell_lt b0
    clear hw2
    obtain ⟨ls1, ls2, ls3⟩ := zu HLS k hk
    have HIA := hide ((zu HR2).ints)
    have k0 : (0 : Int) ≤ (k : Int) := by omega
    have wk : IntKind.i64.wrap ((k : Int) + 1) = (k : Int) + 1 := wrap_i (by omega) (by omega)
    have hlA := (zu HR2).len
    by_cases hkl : k < ln
    ·obtain ⟨⟨q1, q2⟩, hq, hqp⟩ := ls1 hkl
     have hkA : k < A.length := by omega
     have fq := flat2_at hq
     have qa0 := zu HIA _ _ fq.1
     have qa1 := zu HIA _ _ fq.2
     rw [Nat.zero_add] at qa0 qa1
     have d1 : decide ((k : Int) < (A.length : Int)) = true := decide_eq_true (by omega)
     have d2 : (k : Int) < (A.length : Int) := by omega
     have HLI := hide (fun W => less_ints q1 q2 p1 p2 W)
     rw [hqp] at HLI
     clear ls1 ls2 hq fq hqp
     go_wp2_with fail
     go_region_held3 (fun wx => wx.cell? ⟨g, k * 2, none⟩ = some (.int .i64 q1) ∧ wx.cell? ⟨g, k * 2 + 1, none⟩ = some (.int .i64 q2) ∧ wx.cell? ⟨b, i * 2, none⟩ = some (.int .i64 p1) ∧ wx.cell? ⟨b, i * 2 + 1, none⟩ = some (.int .i64 p2))
      (simp (maxDischargeDepth := 12) [go_sem, le1, lt1, *])
      (first
      | (go_at_call 75; refine (zu HLI _).mono ?_; rintro e W4 ⟨rfl, hb4⟩; have HB4 : Hid (Below wr.heap.size wr W4) := hide (by first | exact hb4 | exact bc (Below.drew (Below.refl _ _)) hb4); have r0 := keep1 (zu HB4) qa0; have r1 := keep1 (zu HB4) qa1; have r4 := keep1 (zu HB4) b0; have r5 := keep1 (zu HB4) b1; clear hb4))
     go_wp2_with fail
     go_roundw
     case rel => first | exact ⟨k + 1, by simp, by omega, bc (zu HW2) (zu HB4)⟩ | ((repeat apply Exists.intro); refine ⟨?_, rfl⟩; exact ⟨k + 1, by simp, by omega, bc (zu HW2) (zu HB4)⟩)
     case measure => simp only [intOf]; omega
    ·obtain ⟨hkn, hcase⟩ := ls2 hkl
     have HAT2 : Hid (insU A (p1, p2) = if A[k]? = some (p1, p2) then A else A.take k ++ (p1, p2) :: A.drop k) := hide (by rw [hkn]; exact zu HAT)
     have HKN := hide hkn
     clear ls1 ls2 hkn
     -- behind the search: the place k, in a world V
     have REST : ∀ V : World, Below wr.heap.size wr V → True := fun _ _ => trivial
     rcases hcase with hkA | ⟨⟨q1, q2⟩, hq, hqp⟩
     ·have d1 : decide ((k : Int) < (A.length : Int)) = false := decide_eq_false (by omega)
      have hnone : A[k]? = none := List.getElem?_eq_none (by omega)
      have d3 : ¬ (k : Int) < (A.length : Int) := by omega
      have d4 : ¬ k < A.length := by omega
      have HIN : Hid (insU A (p1, p2) = A.take k ++ (p1, p2) :: A.drop k) := hide (by rw [zu HAT2, if_neg (by rw [hnone]; simp)])
      have HKA := hide hkA
      clear hnone hkA hlA
      go_wp2_with fail
      go_quiet (fail)
      revert nq
      intro n1
      go_wp2_with fail
      go_quiet (fail)
      have hkle : k ≤ A.length := by have := zu HKA; omega
      rw [World.drewN_drewN]
      have HDN : Hid (Below wr.heap.size wr (wr.drewN (n1 + nq))) := hide ⟨rfl, rfl, rfl, Nat.le_refl _, fun _ _ => rfl⟩
      have HRV : Hid (Row (wr.drewN (n1 + nq)) w.heap.size 30 2 (.slice (some ⟨g, 0, none⟩) A.length c) A.length (flat2 A)) := hide ((zu HR2).below (zu HDN))
      have HWV : Hid (Below w.heap.size w (wr.drewN (n1 + nq))) := hide (bc (zu HWW) (zu HDN))
      have c0 : (wr.drewN (n1 + nq)).cell? ⟨b, i * 2, none⟩ = some (.int .i64 p1) := keep1 (zu HDN) b0
      have c1 : (wr.drewN (n1 + nq)).cell? ⟨b, i * 2 + 1, none⟩ = some (.int .i64 p2) := keep1 (zu HDN) b1
      have lv := cell_lt c0
      have hgV : g < (wr.drewN (n1 + nq)).heap.size := by have := hsz2; show g < wr.heap.size; omega
      have hszV : w.heap.size ≤ (wr.drewN (n1 + nq)).heap.size := (zu HWV).size
      generalize wr.drewN (n1 + nq) = V at *
      clear b0 b1 lb
      have hlA : (flat2 A).length = A.length * 2 := flat2_len A
      obtain ⟨ad, had, hsrc⟩ := tail_ad2 g c k A.length (flat2 A) hlA hkle hc1
      have HSRC := hide hsrc
      have HLA := hide hlA
      have kk2 : (k : Int) ≤ (A.length : Int) := by omega
      have kk3 : (k : Int) ≤ (c : Int) := by omega
      have kk4 : (A.length : Int) ≤ (c : Int) := by omega
      clear hsrc hlA
      have HFF : Hid (flat2 (A.take k) = (flat2 A).take (k * 2) ∧ flat2 (A.drop k) = (flat2 A).drop (k * 2)) := hide ⟨(flat2_take A k).symm, (flat2_drop A k).symm⟩
      go_wp2_with (at_builtin; refine zu ?_)
      refine hide ?_
      refine wpList_append_own _ rfl _ _ 23 rfl V.heap.size 30 iP _ 2 16 Try.underlying23 hi1 hy0 hy1 hy2 rfl (by decide) _ 0 (([] : List Int).map (Value.int .i64)) rfl (row_made _ 30 _ 2 (Nat.le_refl _) _ rfl) ad (A.length - k) (c - k) (((flat2 A).drop (k * 2)).map (Value.int .i64)) rfl (by rw [List.length_map, List.length_drop, zu HLA]; omega) (zu HSRC _ (fun j x hj => ka (((zu HRV).ints) j x hj))) ints_one (by unfold maxLen; omega) (by omega) (by simp) ?_
      intro vr wz hown' hgrow hvn
      have R := own_first (wr := V) (news := (flat2 A).drop (k * 2)) (ba (Below.refl _ _) _) (by simp) (Nat.le_refl _) hown' hgrow
      obtain ⟨gr, cr, rfl, hgr1, hgr2, hcr1, hcr2⟩ := R.1.sm (fun e => by have := (hvn.1 e).1; cases this)
      have HRR := hide R.1
      have HBz := hide R.2
      have HRz := hide ((zu HRV).below R.2)
      have z0 := keep1 R.2 c0
      have z1 := keep1 R.2 c1
      have lz := cell_lt z0
      have hgz : g < wz.heap.size := Nat.lt_of_lt_of_le hgV R.2.size
      have hszz := R.2.size
      have hgrg : gr ≠ g := by omega
      have HPO := hide ((zu HRz).pop (m := k) hkle)
      have HIR := hide ((zu HRR).ints)
      clear hown' hgrow hvn R c0 c1
      go_wp2_with fail
      go_region_law
       (first
       | (refine step_own (by rfl) (.tmp 53) (.tmp 58) _ (by rfl) w.heap.size 30 iP _ 2 16 Try.underlying23 hi1 hy0 hy1 hy2 rfl (by omega) (.slice (some ⟨g, 0, none⟩) k c) k (((flat2 A).take (k * 2)).map (Value.int .i64)) (by rfl) (by first | exact (zu HPO).alloc _ | exact ((zu HPO).alloc _).drew | exact ((zu HPO).drew.alloc _))
           ⟨_, 0, none⟩ 1 1 ([p1, p2].map (Value.int .i64)) (by rfl) (by rfl) (by first | exact news_cells _ _ rfl | exact news_cells _ _ (by simp) | exact news_drew _ _ (by simp)) ints_one (by unfold maxLen; omega) (by omega) (by simp; omega) ?_; intro v1 w1 hown' hgrow hvn1; have R1 := hide (own_more (wr := wz) (news := [p1, p2]) (by repeat (first | exact Below.refl _ _ | refine Below.alloc ?_ (by first | omega | (simp; omega)) _ | refine Below.drew ?_)) (by simp; omega) (zu HPO) hown' hgrow); have HIR1 : Hid (IntsAt w1 gr 0 ((flat2 A).drop (k * 2))) := hide ((zu HIR).blk ((hgrow.block gr (by simp; omega) (by simp [Value.ownBlock]; omega)).trans (by first | exact Below.heap_alloc _ _ _ (by simp; omega) | exact Below.heap_alloc _ _ _ (by omega)))); have hs1 := (zu R1).2.size; have HN1 : Hid (v1 ≠ .slice none 0 0) := hide (fun e => by have := (hvn1.1 e).1; cases this); clear hown' hgrow hvn1)
       | (refine step_own (by rfl) (.tmp 59) (.tmp 60) _ (by rfl) w.heap.size 30 iP _ 2 16 Try.underlying23 hi1 hy0 hy1 hy2 rfl (by omega) v1 (k + 1) (((flat2 A).take (k * 2) ++ [p1, p2]).map (Value.int .i64)) (by rfl) (zu R1).1
           ⟨gr, 0, none⟩ (A.length - k) cr (((flat2 A).drop (k * 2)).map (Value.int .i64)) (by rfl) (by rw [List.length_map, List.length_drop, zu HLA]; omega) (src_cells (zu HIR1) _ 0 (fun j x h => by rw [Nat.zero_add]; exact h)) ints_one
           (by unfold maxLen; omega) (by omega) (by omega) ?_; intro v2 w2 hown' hgrow hvn2; have R2 := hide (own_more (wr := w1) (L := (flat2 A).take (k * 2) ++ [p1, p2]) (news := (flat2 A).drop (k * 2)) (Below.refl _ _) (by omega) (zu R1).1 hown' hgrow); have HN2 : Hid (v2 ≠ .slice none 0 0) := hide (fun e => zu HN1 (hvn2.1 e).1); clear hown' hgrow hvn2))
      all_goals
       obtain ⟨g2, c2, rfl, hg21, hg22, hc21, hc22⟩ := (zu R2).1.sm (zu HN2)
       go_wp2_with fail
       go_roundw
       case rel =>
        have hlen : (insU A (p1, p2)).length = k + 1 + (A.length - k) := by rw [zu HIN]; simp; omega
        have H : ∃ (i' g' c' : Nat), Value.int .i64 ((i : Int) + 1) = .int .i64 (i' : Int) ∧ i' ≤ L.length ∧ Value.slice (some ⟨g2, 0, none⟩) (k + 1 + (A.length - k)) c2 = .slice (some ⟨g', 0, none⟩) ((L.take i').foldl insU []).length c' ∧ ((L.take i').foldl insU []).length ≤ i' ∧ Row w2 w.heap.size 30 2 (.slice (some ⟨g', 0, none⟩) ((L.take i').foldl insU []).length c') ((L.take i').foldl insU []).length (flat2 ((L.take i').foldl insU [])) ∧ Below w.heap.size w w2 := by
         refine ⟨i + 1, g2, c2, by simp, by omega, by rw [zu HS, hlen], by rw [zu HS, hlen]; omega, ?_, ?_⟩
         ·have hR := (zu R2).1
          rw [zu HS, hlen, zu HIN, flat2_app]
          show Row w2 w.heap.size 30 2 _ _ (flat2 (A.take k) ++ (p1 :: p2 :: flat2 (A.drop k)))
          rw [(zu HFF).1, (zu HFF).2]
          simpa [List.append_assoc] using hR
         ·exact ((bc (zu HWV) (zu HBz)).trans (zu R1).2).trans (zu R2).2
        first | exact H | ((repeat apply Exists.intro); refine ⟨?_, rfl⟩; exact H)
       case measure => simp only [intOf]; omega
     ·have hkA : k < A.length := by
       rcases Nat.lt_or_ge k A.length with h' | h'
       ·exact h'
       ·rw [List.getElem?_eq_none h'] at hq
        cases hq
      have fq := flat2_at hq
      have qa0 := zu HIA _ _ fq.1
      have qa1 := zu HIA _ _ fq.2
      rw [Nat.zero_add] at qa0 qa1
      have d1 : decide ((k : Int) < (A.length : Int)) = true := decide_eq_true (by omega)
      have d2 : (k : Int) < (A.length : Int) := by omega
      have HLI := hide (fun W => less_ints q1 q2 p1 p2 W)
      rw [hqp] at HLI
      have HQ := hide hq
      have hkle : k ≤ A.length := by omega
      clear hq fq hqp hlA
      go_wp2_with fail
      go_region_held3 (fun wx => wx.cell? ⟨g, k * 2, none⟩ = some (.int .i64 q1) ∧ wx.cell? ⟨g, k * 2 + 1, none⟩ = some (.int .i64 q2) ∧ wx.cell? ⟨b, i * 2, none⟩ = some (.int .i64 p1) ∧ wx.cell? ⟨b, i * 2 + 1, none⟩ = some (.int .i64 p2))
       (simp (maxDischargeDepth := 12) [go_sem, le1, lt1, *])
       (first
       | (go_at_call 75; refine (zu HLI _).mono ?_; rintro e W4 ⟨rfl, hb4⟩; have HB4 : Hid (Below wr.heap.size wr W4) := hide (by first | exact hb4 | exact bc (Below.drew (Below.refl _ _)) hb4); have r0 := keep1 (zu HB4) qa0; have r1 := keep1 (zu HB4) qa1; have r4 := keep1 (zu HB4) b0; have r5 := keep1 (zu HB4) b1; clear hb4))
      by_cases e1 : q1 = p1
      ·by_cases e2 : q2 = p2
       ·subst e1 e2
        have HIN : Hid (insU A (q1, q2) = A) := hide (by rw [zu HAT2, if_pos (zu HQ)])
        go_wp2_with fail
        go_quiet (fail)
        go_wp2_with fail
        go_roundw
        case rel =>
         have H : ∃ (i' g' c' : Nat), Value.int .i64 ((i : Int) + 1) = .int .i64 (i' : Int) ∧ i' ≤ L.length ∧ Value.slice (some ⟨g, 0, none⟩) A.length c = .slice (some ⟨g', 0, none⟩) ((L.take i').foldl insU []).length c' ∧ ((L.take i').foldl insU []).length ≤ i' ∧ Row (W4.drewN nq) w.heap.size 30 2 (.slice (some ⟨g', 0, none⟩) ((L.take i').foldl insU []).length c') ((L.take i').foldl insU []).length (flat2 ((L.take i').foldl insU [])) ∧ Below w.heap.size w (W4.drewN nq) := by
          have HDN : Below wr.heap.size wr (W4.drewN nq) := bc (zu HB4) ⟨rfl, rfl, rfl, Nat.le_refl _, fun _ _ => rfl⟩
          refine ⟨i + 1, g, c, by simp, by omega, by rw [zu HS, zu HIN], by rw [zu HS, zu HIN]; omega, ?_, bc (zu HWW) HDN⟩
          rw [zu HS, zu HIN]
          exact (zu HR2).below HDN
         first | exact H | ((repeat apply Exists.intro); refine ⟨?_, rfl⟩; exact H)
        case measure => simp only [intOf]; omega
       ·have f1 : (q1 == p1) = true := by simp [e1]
        have f2 : (q2 == p2) = false := by simp [e2]
        have HNE : q1 = p1 → q2 = p2 → False := fun _ e => e2 e
        have HIN : Hid (insU A (p1, p2) = A.take k ++ (p1, p2) :: A.drop k) := hide (by rw [zu HAT2, if_neg]; rw [zu HQ]; intro e; have e9 := Option.some.inj e; exact HNE (congrArg Prod.fst e9) (congrArg Prod.snd e9))
        go_wp2_with fail
        go_quiet (fail)
        have HDN : Hid (Below wr.heap.size wr (W4.drewN nq)) := hide (bc (zu HB4) ⟨rfl, rfl, rfl, Nat.le_refl _, fun _ _ => rfl⟩)
        have HRV : Hid (Row (W4.drewN nq) w.heap.size 30 2 (.slice (some ⟨g, 0, none⟩) A.length c) A.length (flat2 A)) := hide ((zu HR2).below (zu HDN))
        have HWV : Hid (Below w.heap.size w (W4.drewN nq)) := hide (bc (zu HWW) (zu HDN))
        have c0 : (W4.drewN nq).cell? ⟨b, i * 2, none⟩ = some (.int .i64 p1) := keep1 (zu HDN) b0
        have c1 : (W4.drewN nq).cell? ⟨b, i * 2 + 1, none⟩ = some (.int .i64 p2) := keep1 (zu HDN) b1
        have lv := cell_lt c0
        have hgV : g < (W4.drewN nq).heap.size := by have := (zu HB4).size; show g < W4.heap.size; omega
        have hszV : w.heap.size ≤ (W4.drewN nq).heap.size := (zu HWV).size
        generalize W4.drewN nq = V at *
        clear b0 b1 lb
        clear qa0 qa1 r0 r1 r4 r5
        have hlA : (flat2 A).length = A.length * 2 := flat2_len A
        have hsrc : ∀ W, IntsAt W g 0 (flat2 A) → ∀ (j : Nat) (u : Value), (((flat2 A).drop (k * 2)).map (Value.int .i64))[j]? = some u → W.cell? ((⟨g, k * 2, none⟩ : Addr).add j) = some u := fun W hW => src_cells hW _ (k * 2) (drop_part _ _)
        have HSRC := hide hsrc
        have HLA := hide hlA
        have kk2 : (k : Int) ≤ (A.length : Int) := by omega
        have kk3 : (k : Int) ≤ (c : Int) := by omega
        have kk4 : (A.length : Int) ≤ (c : Int) := by omega
        clear hsrc hlA
        have HFF : Hid (flat2 (A.take k) = (flat2 A).take (k * 2) ∧ flat2 (A.drop k) = (flat2 A).drop (k * 2)) := hide ⟨(flat2_take A k).symm, (flat2_drop A k).symm⟩
        go_wp2_with (at_builtin; refine zu ?_)
        refine hide ?_
        refine wpList_append_own _ rfl _ _ 23 rfl V.heap.size 30 iP _ 2 16 Try.underlying23 hi1 hy0 hy1 hy2 rfl (by decide) _ 0 (([] : List Int).map (Value.int .i64)) rfl (row_made _ 30 _ 2 (Nat.le_refl _) _ rfl) ⟨g, k * 2, none⟩ (A.length - k) (c - k) (((flat2 A).drop (k * 2)).map (Value.int .i64)) rfl (by rw [List.length_map, List.length_drop, zu HLA]; omega) (zu HSRC _ (fun j x hj => ka (((zu HRV).ints) j x hj))) ints_one (by unfold maxLen; omega) (by omega) (by simp) ?_
        intro vr wz hown' hgrow hvn
        have R := own_first (wr := V) (news := (flat2 A).drop (k * 2)) (ba (Below.refl _ _) _) (by simp) (Nat.le_refl _) hown' hgrow
        obtain ⟨gr, cr, rfl, hgr1, hgr2, hcr1, hcr2⟩ := R.1.sm (fun e => by have := (hvn.1 e).1; cases this)
        have HRR := hide R.1
        have HBz := hide R.2
        have HRz := hide ((zu HRV).below R.2)
        have z0 := keep1 R.2 c0
        have z1 := keep1 R.2 c1
        have lz := cell_lt z0
        have hgz : g < wz.heap.size := Nat.lt_of_lt_of_le hgV R.2.size
        have hszz := R.2.size
        have hgrg : gr ≠ g := by omega
        have HPO := hide ((zu HRz).pop (m := k) hkle)
        have HIR := hide ((zu HRR).ints)
        clear hown' hgrow hvn R c0 c1
        go_wp2_with fail
        go_region_law
         (first
         | (refine step_own (by rfl) (.tmp 53) (.tmp 58) _ (by rfl) w.heap.size 30 iP _ 2 16 Try.underlying23 hi1 hy0 hy1 hy2 rfl (by omega) (.slice (some ⟨g, 0, none⟩) k c) k (((flat2 A).take (k * 2)).map (Value.int .i64)) (by rfl) (by first | exact (zu HPO).alloc _ | exact ((zu HPO).alloc _).drew | exact ((zu HPO).drew.alloc _))
             ⟨_, 0, none⟩ 1 1 ([p1, p2].map (Value.int .i64)) (by rfl) (by rfl) (by first | exact news_cells _ _ rfl | exact news_cells _ _ (by simp) | exact news_drew _ _ (by simp)) ints_one (by unfold maxLen; omega) (by omega) (by simp; omega) ?_; intro v1 w1 hown' hgrow hvn1; have R1 := hide (own_more (wr := wz) (news := [p1, p2]) (by repeat (first | exact Below.refl _ _ | refine Below.alloc ?_ (by first | omega | (simp; omega)) _ | refine Below.drew ?_)) (by simp; omega) (zu HPO) hown' hgrow); have HIR1 : Hid (IntsAt w1 gr 0 ((flat2 A).drop (k * 2))) := hide ((zu HIR).blk ((hgrow.block gr (by simp; omega) (by simp [Value.ownBlock]; omega)).trans (by first | exact Below.heap_alloc _ _ _ (by simp; omega) | exact Below.heap_alloc _ _ _ (by omega)))); have hs1 := (zu R1).2.size; have HN1 : Hid (v1 ≠ .slice none 0 0) := hide (fun e => by have := (hvn1.1 e).1; cases this); clear hown' hgrow hvn1)
         | (refine step_own (by rfl) (.tmp 59) (.tmp 60) _ (by rfl) w.heap.size 30 iP _ 2 16 Try.underlying23 hi1 hy0 hy1 hy2 rfl (by omega) v1 (k + 1) (((flat2 A).take (k * 2) ++ [p1, p2]).map (Value.int .i64)) (by rfl) (zu R1).1
             ⟨gr, 0, none⟩ (A.length - k) cr (((flat2 A).drop (k * 2)).map (Value.int .i64)) (by rfl) (by rw [List.length_map, List.length_drop, zu HLA]; omega) (src_cells (zu HIR1) _ 0 (fun j x h => by rw [Nat.zero_add]; exact h)) ints_one
             (by unfold maxLen; omega) (by omega) (by omega) ?_; intro v2 w2 hown' hgrow hvn2; have R2 := hide (own_more (wr := w1) (L := (flat2 A).take (k * 2) ++ [p1, p2]) (news := (flat2 A).drop (k * 2)) (Below.refl _ _) (by omega) (zu R1).1 hown' hgrow); have HN2 : Hid (v2 ≠ .slice none 0 0) := hide (fun e => zu HN1 (hvn2.1 e).1); clear hown' hgrow hvn2))
        all_goals
         obtain ⟨g2, c2, rfl, hg21, hg22, hc21, hc22⟩ := (zu R2).1.sm (zu HN2)
         go_wp2_with fail
         go_roundw
         case rel =>
          have hlen : (insU A (p1, p2)).length = k + 1 + (A.length - k) := by rw [zu HIN]; simp; omega
          have H : ∃ (i' g' c' : Nat), Value.int .i64 ((i : Int) + 1) = .int .i64 (i' : Int) ∧ i' ≤ L.length ∧ Value.slice (some ⟨g2, 0, none⟩) (k + 1 + (A.length - k)) c2 = .slice (some ⟨g', 0, none⟩) ((L.take i').foldl insU []).length c' ∧ ((L.take i').foldl insU []).length ≤ i' ∧ Row w2 w.heap.size 30 2 (.slice (some ⟨g', 0, none⟩) ((L.take i').foldl insU []).length c') ((L.take i').foldl insU []).length (flat2 ((L.take i').foldl insU [])) ∧ Below w.heap.size w w2 := by
           refine ⟨i + 1, g2, c2, by simp, by omega, by rw [zu HS, hlen], by rw [zu HS, hlen]; omega, ?_, ?_⟩
           ·have hR := (zu R2).1
            rw [zu HS, hlen, zu HIN, flat2_app]
            show Row w2 w.heap.size 30 2 _ _ (flat2 (A.take k) ++ (p1 :: p2 :: flat2 (A.drop k)))
            rw [(zu HFF).1, (zu HFF).2]
            simpa [List.append_assoc] using hR
           ·exact ((bc (zu HWV) (zu HBz)).trans (zu R1).2).trans (zu R2).2
          first | exact H | ((repeat apply Exists.intro); refine ⟨?_, rfl⟩; exact H)
         case measure => simp only [intOf]; omega
      ·have f1 : (q1 == p1) = false := by simp [e1]
       have HNE : q1 = p1 → q2 = p2 → False := fun e _ => e1 e
       have HIN : Hid (insU A (p1, p2) = A.take k ++ (p1, p2) :: A.drop k) := hide (by rw [zu HAT2, if_neg]; rw [zu HQ]; intro e; have e9 := Option.some.inj e; exact HNE (congrArg Prod.fst e9) (congrArg Prod.snd e9))
       go_wp2_with fail
       go_quiet (fail)
       have HDN : Hid (Below wr.heap.size wr (W4.drewN nq)) := hide (bc (zu HB4) ⟨rfl, rfl, rfl, Nat.le_refl _, fun _ _ => rfl⟩)
       have HRV : Hid (Row (W4.drewN nq) w.heap.size 30 2 (.slice (some ⟨g, 0, none⟩) A.length c) A.length (flat2 A)) := hide ((zu HR2).below (zu HDN))
       have HWV : Hid (Below w.heap.size w (W4.drewN nq)) := hide (bc (zu HWW) (zu HDN))
       have c0 : (W4.drewN nq).cell? ⟨b, i * 2, none⟩ = some (.int .i64 p1) := keep1 (zu HDN) b0
       have c1 : (W4.drewN nq).cell? ⟨b, i * 2 + 1, none⟩ = some (.int .i64 p2) := keep1 (zu HDN) b1
       have lv := cell_lt c0
       have hgV : g < (W4.drewN nq).heap.size := by have := (zu HB4).size; show g < W4.heap.size; omega
       have hszV : w.heap.size ≤ (W4.drewN nq).heap.size := (zu HWV).size
       generalize W4.drewN nq = V at *
       clear b0 b1 lb
       clear qa0 qa1 r0 r1 r4 r5
       have hlA : (flat2 A).length = A.length * 2 := flat2_len A
       have hsrc : ∀ W, IntsAt W g 0 (flat2 A) → ∀ (j : Nat) (u : Value), (((flat2 A).drop (k * 2)).map (Value.int .i64))[j]? = some u → W.cell? ((⟨g, k * 2, none⟩ : Addr).add j) = some u := fun W hW => src_cells hW _ (k * 2) (drop_part _ _)
       have HSRC := hide hsrc
       have HLA := hide hlA
       have kk2 : (k : Int) ≤ (A.length : Int) := by omega
       have kk3 : (k : Int) ≤ (c : Int) := by omega
       have kk4 : (A.length : Int) ≤ (c : Int) := by omega
       clear hsrc hlA
       have HFF : Hid (flat2 (A.take k) = (flat2 A).take (k * 2) ∧ flat2 (A.drop k) = (flat2 A).drop (k * 2)) := hide ⟨(flat2_take A k).symm, (flat2_drop A k).symm⟩
       go_wp2_with (at_builtin; refine zu ?_)
       refine hide ?_
       refine wpList_append_own _ rfl _ _ 23 rfl V.heap.size 30 iP _ 2 16 Try.underlying23 hi1 hy0 hy1 hy2 rfl (by decide) _ 0 (([] : List Int).map (Value.int .i64)) rfl (row_made _ 30 _ 2 (Nat.le_refl _) _ rfl) ⟨g, k * 2, none⟩ (A.length - k) (c - k) (((flat2 A).drop (k * 2)).map (Value.int .i64)) rfl (by rw [List.length_map, List.length_drop, zu HLA]; omega) (zu HSRC _ (fun j x hj => ka (((zu HRV).ints) j x hj))) ints_one (by unfold maxLen; omega) (by omega) (by simp) ?_
       intro vr wz hown' hgrow hvn
       have R := own_first (wr := V) (news := (flat2 A).drop (k * 2)) (ba (Below.refl _ _) _) (by simp) (Nat.le_refl _) hown' hgrow
       obtain ⟨gr, cr, rfl, hgr1, hgr2, hcr1, hcr2⟩ := R.1.sm (fun e => by have := (hvn.1 e).1; cases this)
       have HRR := hide R.1
       have HBz := hide R.2
       have HRz := hide ((zu HRV).below R.2)
       have z0 := keep1 R.2 c0
       have z1 := keep1 R.2 c1
       have lz := cell_lt z0
       have hgz : g < wz.heap.size := Nat.lt_of_lt_of_le hgV R.2.size
       have hszz := R.2.size
       have hgrg : gr ≠ g := by omega
       have HPO := hide ((zu HRz).pop (m := k) hkle)
       have HIR := hide ((zu HRR).ints)
       clear hown' hgrow hvn R c0 c1
       go_wp2_with fail
       go_region_law
        (first
        | (refine step_own (by rfl) (.tmp 53) (.tmp 58) _ (by rfl) w.heap.size 30 iP _ 2 16 Try.underlying23 hi1 hy0 hy1 hy2 rfl (by omega) (.slice (some ⟨g, 0, none⟩) k c) k (((flat2 A).take (k * 2)).map (Value.int .i64)) (by rfl) (by first | exact (zu HPO).alloc _ | exact ((zu HPO).alloc _).drew | exact ((zu HPO).drew.alloc _))
            ⟨_, 0, none⟩ 1 1 ([p1, p2].map (Value.int .i64)) (by rfl) (by rfl) (by first | exact news_cells _ _ rfl | exact news_cells _ _ (by simp) | exact news_drew _ _ (by simp)) ints_one (by unfold maxLen; omega) (by omega) (by simp; omega) ?_; intro v1 w1 hown' hgrow hvn1; have R1 := hide (own_more (wr := wz) (news := [p1, p2]) (by repeat (first | exact Below.refl _ _ | refine Below.alloc ?_ (by first | omega | (simp; omega)) _ | refine Below.drew ?_)) (by simp; omega) (zu HPO) hown' hgrow); have HIR1 : Hid (IntsAt w1 gr 0 ((flat2 A).drop (k * 2))) := hide ((zu HIR).blk ((hgrow.block gr (by simp; omega) (by simp [Value.ownBlock]; omega)).trans (by first | exact Below.heap_alloc _ _ _ (by simp; omega) | exact Below.heap_alloc _ _ _ (by omega)))); have hs1 := (zu R1).2.size; have HN1 : Hid (v1 ≠ .slice none 0 0) := hide (fun e => by have := (hvn1.1 e).1; cases this); clear hown' hgrow hvn1)
        | (refine step_own (by rfl) (.tmp 59) (.tmp 60) _ (by rfl) w.heap.size 30 iP _ 2 16 Try.underlying23 hi1 hy0 hy1 hy2 rfl (by omega) v1 (k + 1) (((flat2 A).take (k * 2) ++ [p1, p2]).map (Value.int .i64)) (by rfl) (zu R1).1
            ⟨gr, 0, none⟩ (A.length - k) cr (((flat2 A).drop (k * 2)).map (Value.int .i64)) (by rfl) (by rw [List.length_map, List.length_drop, zu HLA]; omega) (src_cells (zu HIR1) _ 0 (fun j x h => by rw [Nat.zero_add]; exact h)) ints_one
            (by unfold maxLen; omega) (by omega) (by omega) ?_; intro v2 w2 hown' hgrow hvn2; have R2 := hide (own_more (wr := w1) (L := (flat2 A).take (k * 2) ++ [p1, p2]) (news := (flat2 A).drop (k * 2)) (Below.refl _ _) (by omega) (zu R1).1 hown' hgrow); have HN2 : Hid (v2 ≠ .slice none 0 0) := hide (fun e => zu HN1 (hvn2.1 e).1); clear hown' hgrow hvn2))
       all_goals
        obtain ⟨g2, c2, rfl, hg21, hg22, hc21, hc22⟩ := (zu R2).1.sm (zu HN2)
        go_wp2_with fail
        go_roundw
        case rel =>
         have hlen : (insU A (p1, p2)).length = k + 1 + (A.length - k) := by rw [zu HIN]; simp; omega
         have H : ∃ (i' g' c' : Nat), Value.int .i64 ((i : Int) + 1) = .int .i64 (i' : Int) ∧ i' ≤ L.length ∧ Value.slice (some ⟨g2, 0, none⟩) (k + 1 + (A.length - k)) c2 = .slice (some ⟨g', 0, none⟩) ((L.take i').foldl insU []).length c' ∧ ((L.take i').foldl insU []).length ≤ i' ∧ Row w2 w.heap.size 30 2 (.slice (some ⟨g', 0, none⟩) ((L.take i').foldl insU []).length c') ((L.take i').foldl insU []).length (flat2 ((L.take i').foldl insU [])) ∧ Below w.heap.size w w2 := by
          refine ⟨i + 1, g2, c2, by simp, by omega, by rw [zu HS, hlen], by rw [zu HS, hlen]; omega, ?_, ?_⟩
          ·have hR := (zu R2).1
           rw [zu HS, hlen, zu HIN, flat2_app]
           show Row w2 w.heap.size 30 2 _ _ (flat2 (A.take k) ++ (p1 :: p2 :: flat2 (A.drop k)))
           rw [(zu HFF).1, (zu HFF).2]
           simpa [List.append_assoc] using hR
          ·exact ((bc (zu HWV) (zu HBz)).trans (zu R1).2).trans (zu R2).2
         first | exact H | ((repeat apply Exists.intro); refine ⟨?_, rfl⟩; exact H)
        case measure => simp only [intOf]; omega
  ·have iz : decide ((i : Int) < (L.length : Int)) = false := decide_eq_false (by omega)
   have en : i = L.length := by omega
   subst en
   go_wp2_with fail
   go_ret
   exact ⟨g, c, by unfold srtU; rw [List.take_length]; rfl, by have := zu HRW; rw [List.take_length] at this; exact this, zu HW⟩
theorem rev_at {U : List Pt} {j : Nat} {p : Pt} (hj : j < U.length) (h : U[U.length - 1 - j]? = some p) : U.reverse[j]? = some p := by
 rw [List.getElem?_reverse hj]
 exact h
theorem srtU_ne {L : List Pt} (h : L ≠ []) : srtU L ≠ [] := by
 intro e
 cases L with
 | nil => exact h rfl
 | cons a L =>
  have := ((srtU_facts (a :: L)).2 a).2 List.mem_cons_self
  rw [e] at this
  cases this
theorem insU_len (L : List Pt) (p : Pt) : (insU L p).length ≤ L.length + 1 := by
 induction L with
 | nil => simp [insU]
 | cons a L ih =>
  unfold insU
  split
  ·simp; omega
  ·split
   ·simp
   ·simp
theorem foldl_len (L : List Pt) : ∀ A : List Pt, (L.foldl insU A).length ≤ A.length + L.length := by
 induction L with
 | nil => intro A; simp
 | cons p L ih =>
  intro A
  have h1 := ih (insU A p)
  have h2 := insU_len A p
  rw [List.foldl_cons, List.length_cons]
  omega
theorem srtU_len (L : List Pt) : (srtU L).length ≤ L.length := by have := foldl_len L []; simpa [srtU] using this
set_option maxHeartbeats 4000000 in
set_option maxRecDepth 100000 in
theorem hullM_any (b cap : Nat) (L : List Pt) (w : World) (hn : L.length ≤ 4096) (hne : L ≠ []) (hb : b < w.heap.size) (hok : ∀ p ∈ L, ptOk p = true) (hI : IntsAt w b 0 (flat2 L)) :
  Calls Try.prog 28 #[.slice (some ⟨b, 0, none⟩) L.length cap] w fun e w' => ∃ v, e = .returned v ∧ Row w' w.heap.size 30 2 v (hullM (srtU L)).length (flat2 (hullM (srtU L))) ∧ Below w.heap.size w w' := by
 obtain ⟨iP, hi1, hy0, hy1, hy2⟩ := info_parts info26
 have HSO := hide (sortM_any b cap L w hn hb hI)
 have HUO : Hid (∀ p ∈ srtU L, ptOk p = true) := hide (fun p hp => hok p (((srtU_facts L).2 p).1 hp))
 have HUN := hide (srtU_ne hne)
 have hlen := srtU_len L
 clear hok hI hne
 generalize hU : srtU L = U at *
 clear hU
 go_enter Try.func28, Try.ntmps28
 go_wp2_with fail
 refine (zu HSO).mono ?_
 rintro e W1 ⟨g, c, rfl, hrow, hb1⟩
 have HR1 := hide hrow
 have HB1 := hide hb1
 obtain ⟨_, _, hvg, hg1, hg2, hc1, hc2⟩ := hrow.sm (by simp)
 cases hvg
 have hsz1 := hb1.size
 clear hrow hb1 HSO
 by_cases h3 : U.length < 3
 ·have d3 : decide ((U.length : Int) < 3) = true := decide_eq_true (by omega)
  go_wp2_with fail
  go_ret
  exact ⟨_, rfl, by unfold hullM; rw [if_pos h3]; exact zu HR1, zu HB1⟩
 ·have d3 : decide ((U.length : Int) < 3) = false := decide_eq_false (by omega)
  have w1 : IntKind.i64.wrap ((U.length : Int) - 1) = (U.length : Int) - 1 := wrap_i (by omega) (by omega)
  have HI1 := hide (zu HR1).ints
  go_wp2_with fail
  go_loopw [4, 5] (fun v s W => ∃ j : Nat, s = .int .i64 ((U.length : Int) - 1 - (j : Int)) ∧ j ≤ U.length ∧ Row W W1.heap.size 30 2 v j (flat2 (U.reverse.take j)) ∧ Below W1.heap.size W1 W) (fun _ s _ => ((intOf s) + 1).toNat)
  case atStart => exact ⟨0, by simp, by omega, row_made _ 30 _ 2 (by simp) _ (by simp), ba (Below.refl _ _) _⟩
  case round =>
   obtain ⟨j, rfl, hj, hrow, hw⟩ := hrel
   have HRW := hide hrow
   have HW := hide hw
   have hszw := hw.size
   obtain ⟨u, cu, rfl, _⟩ := hrow.form
   clear hrow hw
   by_cases h : j < U.length
   ·obtain ⟨M, hM⟩ : ∃ M : Nat, M = U.length - 1 - j := ⟨_, rfl⟩
    have eM : (U.length : Int) - 1 - (j : Int) = (M : Int) := by omega
    rw [eM]
    have dz : decide ((0 : Int) ≤ (M : Int)) = true := decide_eq_true (by omega)
    have i1 : (M : Int) < (U.length : Int) := by omega
    have i0 : (0 : Int) ≤ (M : Int) := by omega
    obtain ⟨p1, p2, hp⟩ : ∃ p1 p2 : Int, U[M]? = some (p1, p2) := ⟨_, _, List.getElem?_eq_getElem (show M < U.length by omega)⟩
    have hIw := (zu HI1).below (zu HW) hg2
    have c0 := hIw _ _ (flat2_at hp).1
    have c1 := hIw _ _ (flat2_at hp).2
    rw [Nat.zero_add] at c0 c1
    have lc := cell_lt c0
    have HRV := hide (rev_at (U := U) (p := (p1, p2)) h (by rw [← hM]; exact hp))
    have wm : IntKind.i64.wrap ((M : Int) - 1) = (M : Int) - 1 := wrap_i (by omega) (by omega)
    have EM := hide hM
    have EI := hide eM
    clear hIw hp hM eM
    go_wp2_with (at_builtin; refine zu ?_)
    refine hide ?_
    refine wpList_append_own _ rfl _ _ 23 rfl W1.heap.size 30 iP _ 2 16 Try.underlying23 hi1 hy0 hy1 hy2 rfl (by decide) _ _ _ rfl ((zu HRW).alloc _) _ 1 1 ([p1, p2].map (Value.int .i64)) rfl rfl (by first | exact news_cells _ _ rfl | exact news_cells _ _ (by simp) | exact news_drew _ _ (by simp)) ints_one (by unfold maxLen; omega) (by omega) (by simp; omega) ?_
    intro v' wz hown' hgrow _
    have R := hide (own_more (wr := wr) (news := [p1, p2]) (by repeat (first | exact Below.refl _ _ | refine Below.alloc ?_ (by first | omega | (simp; omega)) _ | refine Below.drew ?_)) (by simp; omega) (zu HRW) hown' hgrow)
    clear hown' hgrow
    go_wp2_with fail
    go_roundw
    case rel =>
     have H : ∃ j' : Nat, Value.int .i64 ((M : Int) - 1) = .int .i64 ((U.length : Int) - 1 - (j' : Int)) ∧ j' ≤ U.length ∧ Row wz W1.heap.size 30 2 v' j' (flat2 (U.reverse.take j')) ∧ Below W1.heap.size W1 wz := by
      refine ⟨j + 1, by have := zu EI; congr 1; omega, by omega, ?_, (zu HW).trans (zu R).2⟩
      rw [List.take_add_one, zu HRV, flat2_app]
      exact (zu R).1
     first | exact H | ((repeat apply Exists.intro); refine ⟨?_, rfl⟩; exact H)
    case measure => have := zu EI; simp only [intOf]; omega
   ·have en : j = U.length := by omega
    subst en
    have dz : decide ((0 : Int) ≤ (U.length : Int) - 1 - (U.length : Int)) = false := decide_eq_false (by omega)
    have HRV : Hid (Row wr W1.heap.size 30 2 (.slice u U.length cu) U.reverse.length (flat2 U.reverse)) := hide (by have := zu HRW; rw [List.take_of_length_le (by simp)] at this; rw [List.length_reverse]; exact this)
    obtain ⟨gd, cd, hvd, hgd1, hgd2, hid, hcd, hcd2⟩ := (zu HRV).full (by rw [List.length_reverse]; omega)
    rw [List.length_reverse] at hvd
    cases hvd
    have HH1 := hide (fun W (hW : Below wr.heap.size wr W) => halfM_any g c U W (by omega) (zu HUN) (by have := hW.size; omega) (zu HUO) (((zu HI1).below (zu HW) hg2).below hW (by omega)))
    have HH2 := hide (fun W (hW : Below wr.heap.size wr W) => (by have := halfM_any gd cu U.reverse W (by rw [List.length_reverse]; omega) (by rw [Ne, List.reverse_eq_nil_iff]; exact zu HUN) (by have := hW.size; omega) (fun p hp => zu HUO p (List.mem_reverse.1 hp)) (hid.below hW hgd2); rw [List.length_reverse] at this; exact this : Calls Try.prog 59 #[.slice (some ⟨gd, 0, none⟩) U.length cu] W fun e w' => ∃ v, e = .returned v ∧ Row w' W.heap.size 30 2 v (half U.reverse).dropLast.length (flat2 (half U.reverse).dropLast) ∧ Below W.heap.size W w'))
    have HLE1 : Hid ((half U).length ≤ U.length) := hide (by have := halfR_le U; unfold half; rw [List.length_reverse]; exact this)
    have HLE2 : Hid ((half U.reverse).length ≤ U.length) := hide (by have := halfR_le U.reverse; unfold half; rw [List.length_reverse]; rw [List.length_reverse] at this; exact this)
    have HP2 : Hid (2 ≤ (half U.reverse).length) := hide (by
     cases hr : U.reverse with
     | nil => rw [List.reverse_eq_nil_iff] at hr; exact absurd hr (zu HUN)
     | cons z R =>
      refine (half_facts (a := z) (L := R) (fun e => ?_)).2.2.1
      have := congrArg List.length hr
      rw [List.length_reverse, e] at this
      simp at this
      omega)
    clear hid HRW
    go_wp2_with fail
    refine (zu HH1 _ (Below.refl _ _)).mono ?_
    rintro e W3 ⟨v3, rfl, hr3, hb3⟩
    have HR3 := hide hr3
    have HB3 := hide hb3
    clear hr3 hb3
    go_wp2_with fail
    refine (zu HH2 _ (zu HB3)).mono ?_
    rintro e W4 ⟨v4, rfl, hr4, hb4⟩
    have hs3 := (zu HB3).size
    have hs4 := hb4.size
    have HR3' : Hid (Row W4 w.heap.size 30 2 v3 (half U).dropLast.length (flat2 (half U).dropLast)) := hide (((zu HR3).below hb4).mono (by omega))
    have l1 := zu HLE1
    have l2 := zu HLE2
    have l3 := zu HP2
    have e1 : (half U).dropLast.length = (half U).length - 1 := List.length_dropLast
    have e2 : (half U.reverse).dropLast.length = (half U.reverse).length - 1 := List.length_dropLast
    obtain ⟨g4, c4, rfl, hg41, hg42, hi4, hc4, hc42⟩ := hr4.full (by omega)
    have HI4 := hide hi4
    have HL4 := hide hr4.len
    have HBW : Hid (Below w.heap.size w W4) := hide (bc (bc (bc (zu HB1) (zu HW)) (zu HB3)) hb4)
    have bn1 : (half U).dropLast.length ≤ 4096 := by omega
    have bn2 : (half U.reverse).dropLast.length ≤ 4096 := by omega
    obtain ⟨u3, c3, rfl, _⟩ := (zu HR3').form
    have HHM : Hid (hullM U = (half U).dropLast ++ (half U.reverse).dropLast) := hide (by unfold hullM; rw [if_neg h3])
    clear hr4 hi4 hb4 l1 l2 l3 e1 e2
    generalize hX : (half U).dropLast = X at *
    generalize hY : (half U.reverse).dropLast = Y at *
    clear hX hY
    go_wp2_with (at_builtin; refine zu ?_)
    refine hide ?_
    refine wpList_append_own _ rfl _ _ 23 rfl w.heap.size 30 iP _ 2 16 Try.underlying23 hi1 hy0 hy1 hy2 rfl (by decide) _ _ _ rfl (zu HR3') ⟨g4, 0, none⟩ Y.length c4 ((flat2 Y).map (Value.int .i64)) rfl (by rw [List.length_map, flat2_len]) (src_cells (zu HI4) _ 0 (fun j x h => by rw [Nat.zero_add]; exact h)) ints_one (by unfold maxLen; omega) (by omega) (by omega) ?_
    intro v' wz hown' hgrow _
    have R := hide (own_more (wr := W4) (news := flat2 Y) (Below.refl _ _) (by omega) (zu HR3') hown' hgrow)
    clear hown' hgrow
    go_wp2_with fail
    go_ret
    exact ⟨_, rfl, by rw [zu HHM, List.length_append, flat2_app]; exact (zu R).1, (zu HBW).trans (zu R).2⟩
end Go.Proofs.Ytdcecfgmfmpeeaa
