/-
  The model's SketchMove.
-/
import Derived.Test.YtchdmigeopmacaaGlue
import Derived.Test.YtchdmigeopmacaaSpansOf
import Derived.Deep.RegionLaw
import Derived.Test.YtchdmigeopmacaaInv
namespace Go.Proofs.Ytchdmigeopmacaa
open Go.ChangeShapes Go.WideShapes Go.ChangeAt Go.RowKit
set_option linter.unusedVariables false
set_option linter.unusedSimpArgs false

/-- the two rules that stand for a move -/
def ext (pt x y : Int) : List Int := [1, pt, 0, x, 2, pt, 0, y]
theorem rusAt_ints {w : World} {g : Nat} {L : List Int} {n : Nat} (h : IntsAt w g 0 L) (hl : L.length = n * 4) : RusAt w g 0 (toRus L n) := by
  intro j p hj
  have hjn : j < n := by
    have := (List.getElem?_eq_some_iff.1 hj).1
    simpa [toRus] using this
  unfold toRus at hj
  rw [List.getElem?_map, List.getElem?_range hjn] at hj
  simp only [Option.map_some, Option.some.injEq] at hj
  rw [← hj]
  have hx : ∀ f, f < 4 → L[j * 4 + f]? = some (L.getD (j * 4 + f) 0) := fun f hf => by rw [List.getD_eq_getElem?_getD, List.getElem?_eq_getElem (by omega)]; rfl
  have hy : ∀ f, f < 4 → w.cell? ⟨g, 0 + j * 4 + f, none⟩ = some (.int .i64 (L.getD (j * 4 + f) 0)) := fun f hf => by have := h _ _ (hx f hf); rwa [← Nat.add_assoc] at this
  exact ⟨hy 0 (by omega), hy 1 (by omega), hy 2 (by omega), hy 3 (by omega)⟩
theorem own_empty {W : World} {base b : Nat} (h : W.heap[b]? = some (.cells #[] 35)) (hb : base ≤ b) : W.ownsRow base 35 4 (.slice (some ⟨b, 0, none⟩) 0 0) 0 (([] : List Int).map (Value.int .i64)) :=
  ⟨rfl, .inr ⟨b, 0, #[], rfl, hb, h, Nat.le_refl _, by decide, rfl, rfl⟩⟩
theorem info52m : (Try.prog.info? 35).map (fun i => (i.zero, i.size, i.bytes)) = some (some (.agg #[.int .i64 0, .int .i64 0, .int .i64 0, .int .i64 0]), 4, 32) := by kernel_rfl

set_option maxHeartbeats 4000000 in
set_option maxRecDepth 100000 in
theorem moveM_any (n pt x y : Int) (g l : Nat) (L : List Int) (w : World) (hn : l ≤ 1048576) (HL : Hid (L.length = l * 4)) (HI : Hid (IntsAt w g 0 L)) (hg : g < w.heap.size)
    (HS : Hid (∀ W (q cap : Nat), q < W.heap.size → IntsAt W q 0 (L ++ ext pt x y) → Calls Try.prog 8 #[skv n (some ⟨q, 0, none⟩) (l + 2) cap] W fun e w' => (∃ a b, e = .returned (.tuple #[a, .int .i64 (outC n (toRus (L ++ ext pt x y) (l + 2))), b]) ∧ Sl w' a (outN n (toRus (L ++ ext pt x y) (l + 2))) (outP n (toRus (L ++ ext pt x y) (l + 2))) ∧ Sl w' b (outK n (toRus (L ++ ext pt x y) (l + 2))).length (nats (outK n (toRus (L ++ ext pt x y) (l + 2))))) ∧ Below W.heap.size W w')) :
    Calls Try.prog 17 #[skv n (some ⟨g, 0, none⟩) l l, .int .i64 pt, .agg #[.int .i64 x, .int .i64 y]] w fun e w' => (∃ a b, e = .returned (.tuple #[a, .int .i64 (outC n (toRus (L ++ ext pt x y) (l + 2))), b]) ∧ Sl w' a (outN n (toRus (L ++ ext pt x y) (l + 2))) (outP n (toRus (L ++ ext pt x y) (l + 2))) ∧ Sl w' b (outK n (toRus (L ++ ext pt x y) (l + 2))).length (nats (outK n (toRus (L ++ ext pt x y) (l + 2))))) ∧ Below w.heap.size w w' := by
  obtain ⟨i0, hi, hz0, hz1, hz2⟩ := info_parts info52m
  generalize outC n (toRus (L ++ ext pt x y) (l + 2)) = cc at *
  generalize outN n (toRus (L ++ ext pt x y) (l + 2)) = np at *
  generalize outP n (toRus (L ++ ext pt x y) (l + 2)) = P at *
  generalize outK n (toRus (L ++ ext pt x y) (l + 2)) = C at *
  go_enter Try.func17, Try.ntmps17
  go_upto_region 1 with fail
  have HB2 := hide (show Below w.heap.size w ((w.alloc (.cells #[.int .i64 n, .slice (some ⟨g, 0, none⟩) l l] 25)).alloc (.cells #[.int .i64 x, .int .i64 y] 42)) from ba (ba (Below.refl _ _) _) _)
  have a0 : ((w.alloc (.cells #[.int .i64 n, .slice (some ⟨g, 0, none⟩) l l] 25)).alloc (.cells #[.int .i64 x, .int .i64 y] 42)).cell? ⟨w.heap.size, 0, none⟩ = some (.int .i64 n) := by simp [go_sem]
  have a1 : ((w.alloc (.cells #[.int .i64 n, .slice (some ⟨g, 0, none⟩) l l] 25)).alloc (.cells #[.int .i64 x, .int .i64 y] 42)).cell? ⟨w.heap.size, 1, none⟩ = some (.slice (some ⟨g, 0, none⟩) l l) := by simp [go_sem]
  have b0 : ((w.alloc (.cells #[.int .i64 n, .slice (some ⟨g, 0, none⟩) l l] 25)).alloc (.cells #[.int .i64 x, .int .i64 y] 42)).cell? ⟨w.heap.size + 1, 0, none⟩ = some (.int .i64 x) := by simp [go_sem]
  have b1 : ((w.alloc (.cells #[.int .i64 n, .slice (some ⟨g, 0, none⟩) l l] 25)).alloc (.cells #[.int .i64 x, .int .i64 y] 42)).cell? ⟨w.heap.size + 1, 1, none⟩ = some (.int .i64 y) := by simp [go_sem]
  have hsz : ((w.alloc (.cells #[.int .i64 n, .slice (some ⟨g, 0, none⟩) l l] 25)).alloc (.cells #[.int .i64 x, .int .i64 y] 42)).heap.size = w.heap.size + 2 := by simp
  have HI2 := hide ((unhide HI).below (unhide HB2) hg)
  generalize (w.alloc (.cells #[.int .i64 n, .slice (some ⟨g, 0, none⟩) l l] 25)).alloc (.cells #[.int .i64 x, .int .i64 y] 42) = V at *
  have hgV : g < V.heap.size := by omega
  have HSZ := hide hsz
  have ltw : w.heap.size < V.heap.size := by omega
  have ltw1 : w.heap.size + 1 < V.heap.size := by omega
  clear hsz
  refine wp_region_inv (fun Lb A W => ∃ (u0 u1 u2 u3 u4 u5 u6 u7 u8 u9 u10 u11 u12 u13 u14 : Bool) (p t : Nat) (v1 v2 : Value), Lb = #[u0, u1, u2, u3, u4, u5, u6, u7, u8, u9, u10, u11, u12, u13, u14] ∧ A = ({ tmps := #[skv n (some ⟨g, 0, none⟩) l l, .int .i64 (pt), .agg #[.int .i64 (x), .int .i64 (y)], .pointer (some ⟨w.heap.size, 0, none⟩), undef, .pointer (some ⟨w.heap.size + 1, 0, none⟩), .slice none 0 0, .int .i64 (0), .slice none 0 0, (bif u14 then v2 else undef), (bif u0 then .slice (some ⟨p, 0, none⟩) 0 0 else undef), (bif u1 then .pointer (some ⟨w.heap.size, 1, none⟩) else undef), (bif u2 then .slice (some ⟨g, 0, none⟩) l l else undef), (bif u3 then v1 else undef), (bif u4 then .int .i64 (pt) else undef), (bif u5 then .pointer (some ⟨w.heap.size + 1, 0, none⟩) else undef), (bif u6 then .int .i64 (x) else undef), (bif u7 then .agg #[.int .i64 1, .int .i64 (pt), .int .i64 0, .int .i64 (x)] else undef), (bif u8 then .int .i64 (pt) else undef), (bif u9 then .pointer (some ⟨w.heap.size + 1, 1, none⟩) else undef), (bif u10 then .int .i64 (y) else undef), (bif u11 then .agg #[.int .i64 2, .int .i64 (pt), .int .i64 0, .int .i64 (y)] else undef), (bif u12 then .slice (some ⟨t, 0, none⟩) 2 2 else undef), (bif u13 then v2 else undef), undef, undef, undef, undef, undef, undef, undef, undef], defers := [] } : Act) ∧ Below V.heap.size V W ∧ (u0 = true → u3 = false → V.heap.size ≤ p ∧ W.heap[p]? = some (.cells #[] 35)) ∧ (u12 = true → u13 = false → W.heap[t]? = some (.cells #[.int .i64 1, .int .i64 pt, .int .i64 0, .int .i64 x, .int .i64 2, .int .i64 pt, .int .i64 0, .int .i64 y] 35)) ∧ (u0 = true → u3 = false → u12 = true → p ≠ t) ∧ (u3 = true → u13 = false → Row W V.heap.size 35 4 v1 l L) ∧ (u13 = true → Row W V.heap.size 35 4 v2 (l + 2) (L ++ ext pt x y)) ∧ (u13 = true → u3 = true ∧ u12 = true) ∧ (u14 = true → u13 = true)) (by kernel_rfl) (by kernel_rfl) ?h0 ?hstep ?hend
  case h0 =>
    exact ⟨false, false, false, false, false, false, false, false, false, false, false, false, false, false, false, 0, 0, undef, undef, rfl, rfl, Below.drew (Below.refl _ _), (fun h => nomatch h), (fun h => nomatch h), (fun h => nomatch h), (fun h => nomatch h), (fun h => nomatch h), (fun h => nomatch h), (fun h => nomatch h)⟩
  case hstep =>
    rintro Lb A W ⟨u0, u1, u2, u3, u4, u5, u6, u7, u8, u9, u10, u11, u12, u13, u14, p, t, v1, v2, rfl, rfl, hB, kE, kT, kN, kR, kS, kC, kD⟩
    refine ⟨?_, ?_, ?_, ?_, ?_, ?_, ?_, ?_, ?_, ?_, ?_, ?_, ?_, ?_, ?_, trivial⟩
    · intro h0 hd K hK
      have z : u0 = false := h0
      have KE := hide kE
      have KT := hide kT
      have KN := hide kN
      have KR := hide kR
      have KS := hide kS
      have KC := hide kC
      have KD := hide kD
      have HBW := hide hB
      have c1 := keep1 hB a1
      have d0 := keep1 hB b0
      have d1 := keep1 hB b1
      clear hB kE kT kN kR kS kC kD
      subst z
      clear h0 hd
      rw [if_pos (by rfl)]
      have HNN : Hid (u3 = false → u12 = true → W.heap.size ≠ t) := hide (by
        intro h2 h3
        have h13 : u13 = false := by
          cases hq : u13 with
          | false => rfl
          | true => exact absurd (unhide KC hq).1 (by rw [h2]; decide)
        have h4 := (Array.getElem?_eq_some_iff.1 (unhide KT h3 h13)).1
        omega)
      go_simp
      exact unhide hK _ _ ⟨true, u1, u2, u3, u4, u5, u6, u7, u8, u9, u10, u11, u12, u13, u14, W.heap.size, t, v1, v2, rfl, rfl, ba (unhide HBW) _, (fun _ _ => ⟨(unhide HBW).size, heap_alloc_new W _⟩), (fun h1 h2 => (Below.heap_alloc _ _ _ (Array.getElem?_eq_some_iff.1 (unhide KT h1 h2)).1).trans (unhide KT h1 h2)), (fun _ h2 h3 => unhide HNN h2 h3), (fun h1 h2 => World.ownsRow.alloc (unhide KR h1 h2) _), (fun h1 => World.ownsRow.alloc (unhide KS h1) _), unhide KC, unhide KD⟩
    · intro h0 hd K hK
      have z : u1 = false := h0
      have KE := hide kE
      have KT := hide kT
      have KN := hide kN
      have KR := hide kR
      have KS := hide kS
      have KC := hide kC
      have KD := hide kD
      have HBW := hide hB
      have c1 := keep1 hB a1
      have d0 := keep1 hB b0
      have d1 := keep1 hB b1
      clear hB kE kT kN kR kS kC kD
      subst z
      clear h0 hd
      rw [if_pos (by rfl)]
      go_simp
      exact unhide hK _ _ ⟨u0, true, u2, u3, u4, u5, u6, u7, u8, u9, u10, u11, u12, u13, u14, p, t, v1, v2, rfl, rfl, unhide HBW, unhide KE, unhide KT, unhide KN, unhide KR, unhide KS, unhide KC, unhide KD⟩
    · intro h0 hd K hK
      have z : u2 = false := h0
      have KE := hide kE
      have KT := hide kT
      have KN := hide kN
      have KR := hide kR
      have KS := hide kS
      have KC := hide kC
      have KD := hide kD
      have HBW := hide hB
      have c1 := keep1 hB a1
      have d0 := keep1 hB b0
      have d1 := keep1 hB b1
      clear hB kE kT kN kR kS kC kD
      have zd : u1 = true := by
        simp [Region.binds] at hd
        simp [hd]
      obtain ⟨rfl⟩ := zd
      subst z
      clear h0 hd
      rw [if_pos (by rfl)]
      go_simp
      exact unhide hK _ _ ⟨u0, true, true, u3, u4, u5, u6, u7, u8, u9, u10, u11, u12, u13, u14, p, t, v1, v2, rfl, rfl, unhide HBW, unhide KE, unhide KT, unhide KN, unhide KR, unhide KS, unhide KC, unhide KD⟩
    · intro h0 hd K hK
      have z : u3 = false := h0
      have KE := hide kE
      have KT := hide kT
      have KN := hide kN
      have KR := hide kR
      have KS := hide kS
      have KC := hide kC
      have KD := hide kD
      have HBW := hide hB
      have c1 := keep1 hB a1
      have d0 := keep1 hB b0
      have d1 := keep1 hB b1
      clear hB kE kT kN kR kS kC kD
      have zd : u0 = true ∧ u2 = true := by
        simp [Region.binds] at hd
        simp [hd]
      obtain ⟨rfl, rfl⟩ := zd
      subst z
      clear h0 hd
      rw [if_pos (by rfl)]
      have z13 : u13 = false := by
        cases hq : u13 with
        | false => rfl
        | true => exact absurd (unhide KC hq).1 (by decide)
      subst z13
      obtain ⟨hp1, hp2⟩ := unhide KE rfl rfl
      refine wp_append_own W (.tmp 10) (.tmp 12) 23 (by rfl) V.heap.size 35 i0 _ 4 32 Try.underlying23 hi hz0 hz1 hz2 rfl (by omega) (.slice (some ⟨p, 0, none⟩) 0 0) 0 (([] : List Int).map (Value.int .i64)) (by rfl) (own_empty hp2 hp1) ⟨g, 0, none⟩ l l (L.map (Value.int .i64)) (by rfl) (by simp [unhide HL]) (src_cells ((unhide HI2).below (unhide HBW) hgV) L 0 (fun j x h => by rw [Nat.zero_add]; exact h)) ints_one (by unfold maxLen; omega) (by omega) (unhide HBW).size ?_
      intro v1' w1 hown' hgrow _
      have R := own_first (wr := W) (news := L) (Below.refl _ _) (unhide HBW).size hp1 hown' hgrow
      exact unhide hK _ _ ⟨true, u1, true, true, u4, u5, u6, u7, u8, u9, u10, u11, u12, false, u14, p, t, v1', v2, rfl, rfl, (unhide HBW).trans R.2, (fun _ h => nomatch h), (fun h1 h2 => (hgrow.block t (Array.getElem?_eq_some_iff.1 (unhide KT h1 h2)).1 (fun e => unhide KN rfl rfl h1 (by simp [Value.ownBlock] at e; exact e.symm))).trans (unhide KT h1 h2)), (fun _ h => nomatch h), (fun _ _ => R.1), (fun h => nomatch h), (fun h => nomatch h), unhide KD⟩
    · intro h0 hd K hK
      have z : u4 = false := h0
      have KE := hide kE
      have KT := hide kT
      have KN := hide kN
      have KR := hide kR
      have KS := hide kS
      have KC := hide kC
      have KD := hide kD
      have HBW := hide hB
      have c1 := keep1 hB a1
      have d0 := keep1 hB b0
      have d1 := keep1 hB b1
      clear hB kE kT kN kR kS kC kD
      subst z
      clear h0 hd
      rw [if_pos (by rfl)]
      go_simp
      exact unhide hK _ _ ⟨u0, u1, u2, u3, true, u5, u6, u7, u8, u9, u10, u11, u12, u13, u14, p, t, v1, v2, rfl, rfl, unhide HBW, unhide KE, unhide KT, unhide KN, unhide KR, unhide KS, unhide KC, unhide KD⟩
    · intro h0 hd K hK
      have z : u5 = false := h0
      have KE := hide kE
      have KT := hide kT
      have KN := hide kN
      have KR := hide kR
      have KS := hide kS
      have KC := hide kC
      have KD := hide kD
      have HBW := hide hB
      have c1 := keep1 hB a1
      have d0 := keep1 hB b0
      have d1 := keep1 hB b1
      clear hB kE kT kN kR kS kC kD
      subst z
      clear h0 hd
      rw [if_pos (by rfl)]
      go_simp
      exact unhide hK _ _ ⟨u0, u1, u2, u3, u4, true, u6, u7, u8, u9, u10, u11, u12, u13, u14, p, t, v1, v2, rfl, rfl, unhide HBW, unhide KE, unhide KT, unhide KN, unhide KR, unhide KS, unhide KC, unhide KD⟩
    · intro h0 hd K hK
      have z : u6 = false := h0
      have KE := hide kE
      have KT := hide kT
      have KN := hide kN
      have KR := hide kR
      have KS := hide kS
      have KC := hide kC
      have KD := hide kD
      have HBW := hide hB
      have c1 := keep1 hB a1
      have d0 := keep1 hB b0
      have d1 := keep1 hB b1
      clear hB kE kT kN kR kS kC kD
      have zd : u5 = true := by
        simp [Region.binds] at hd
        simp [hd]
      obtain ⟨rfl⟩ := zd
      subst z
      clear h0 hd
      rw [if_pos (by rfl)]
      go_simp
      exact unhide hK _ _ ⟨u0, u1, u2, u3, u4, true, true, u7, u8, u9, u10, u11, u12, u13, u14, p, t, v1, v2, rfl, rfl, unhide HBW, unhide KE, unhide KT, unhide KN, unhide KR, unhide KS, unhide KC, unhide KD⟩
    · intro h0 hd K hK
      have z : u7 = false := h0
      have KE := hide kE
      have KT := hide kT
      have KN := hide kN
      have KR := hide kR
      have KS := hide kS
      have KC := hide kC
      have KD := hide kD
      have HBW := hide hB
      have c1 := keep1 hB a1
      have d0 := keep1 hB b0
      have d1 := keep1 hB b1
      clear hB kE kT kN kR kS kC kD
      have zd : u4 = true ∧ u6 = true := by
        simp [Region.binds] at hd
        simp [hd]
      obtain ⟨rfl, rfl⟩ := zd
      subst z
      clear h0 hd
      rw [if_pos (by rfl)]
      go_simp
      exact unhide hK _ _ ⟨u0, u1, u2, u3, true, u5, true, true, u8, u9, u10, u11, u12, u13, u14, p, t, v1, v2, rfl, rfl, unhide HBW, unhide KE, unhide KT, unhide KN, unhide KR, unhide KS, unhide KC, unhide KD⟩
    · intro h0 hd K hK
      have z : u8 = false := h0
      have KE := hide kE
      have KT := hide kT
      have KN := hide kN
      have KR := hide kR
      have KS := hide kS
      have KC := hide kC
      have KD := hide kD
      have HBW := hide hB
      have c1 := keep1 hB a1
      have d0 := keep1 hB b0
      have d1 := keep1 hB b1
      clear hB kE kT kN kR kS kC kD
      subst z
      clear h0 hd
      rw [if_pos (by rfl)]
      go_simp
      exact unhide hK _ _ ⟨u0, u1, u2, u3, u4, u5, u6, u7, true, u9, u10, u11, u12, u13, u14, p, t, v1, v2, rfl, rfl, unhide HBW, unhide KE, unhide KT, unhide KN, unhide KR, unhide KS, unhide KC, unhide KD⟩
    · intro h0 hd K hK
      have z : u9 = false := h0
      have KE := hide kE
      have KT := hide kT
      have KN := hide kN
      have KR := hide kR
      have KS := hide kS
      have KC := hide kC
      have KD := hide kD
      have HBW := hide hB
      have c1 := keep1 hB a1
      have d0 := keep1 hB b0
      have d1 := keep1 hB b1
      clear hB kE kT kN kR kS kC kD
      subst z
      clear h0 hd
      rw [if_pos (by rfl)]
      go_simp
      exact unhide hK _ _ ⟨u0, u1, u2, u3, u4, u5, u6, u7, u8, true, u10, u11, u12, u13, u14, p, t, v1, v2, rfl, rfl, unhide HBW, unhide KE, unhide KT, unhide KN, unhide KR, unhide KS, unhide KC, unhide KD⟩
    · intro h0 hd K hK
      have z : u10 = false := h0
      have KE := hide kE
      have KT := hide kT
      have KN := hide kN
      have KR := hide kR
      have KS := hide kS
      have KC := hide kC
      have KD := hide kD
      have HBW := hide hB
      have c1 := keep1 hB a1
      have d0 := keep1 hB b0
      have d1 := keep1 hB b1
      clear hB kE kT kN kR kS kC kD
      have zd : u9 = true := by
        simp [Region.binds] at hd
        simp [hd]
      obtain ⟨rfl⟩ := zd
      subst z
      clear h0 hd
      rw [if_pos (by rfl)]
      go_simp
      exact unhide hK _ _ ⟨u0, u1, u2, u3, u4, u5, u6, u7, u8, true, true, u11, u12, u13, u14, p, t, v1, v2, rfl, rfl, unhide HBW, unhide KE, unhide KT, unhide KN, unhide KR, unhide KS, unhide KC, unhide KD⟩
    · intro h0 hd K hK
      have z : u11 = false := h0
      have KE := hide kE
      have KT := hide kT
      have KN := hide kN
      have KR := hide kR
      have KS := hide kS
      have KC := hide kC
      have KD := hide kD
      have HBW := hide hB
      have c1 := keep1 hB a1
      have d0 := keep1 hB b0
      have d1 := keep1 hB b1
      clear hB kE kT kN kR kS kC kD
      have zd : u8 = true ∧ u10 = true := by
        simp [Region.binds] at hd
        simp [hd]
      obtain ⟨rfl, rfl⟩ := zd
      subst z
      clear h0 hd
      rw [if_pos (by rfl)]
      go_simp
      exact unhide hK _ _ ⟨u0, u1, u2, u3, u4, u5, u6, u7, true, u9, true, true, u12, u13, u14, p, t, v1, v2, rfl, rfl, unhide HBW, unhide KE, unhide KT, unhide KN, unhide KR, unhide KS, unhide KC, unhide KD⟩
    · intro h0 hd K hK
      have z : u12 = false := h0
      have KE := hide kE
      have KT := hide kT
      have KN := hide kN
      have KR := hide kR
      have KS := hide kS
      have KC := hide kC
      have KD := hide kD
      have HBW := hide hB
      have c1 := keep1 hB a1
      have d0 := keep1 hB b0
      have d1 := keep1 hB b1
      clear hB kE kT kN kR kS kC kD
      have zd : u7 = true ∧ u11 = true := by
        simp [Region.binds] at hd
        simp [hd]
      obtain ⟨rfl, rfl⟩ := zd
      subst z
      clear h0 hd
      rw [if_pos (by rfl)]
      go_simp
      exact unhide hK _ _ ⟨u0, u1, u2, u3, u4, u5, u6, true, u8, u9, u10, true, true, u13, u14, p, W.heap.size, v1, v2, rfl, rfl, ba (unhide HBW) _, (fun h1 h2 => ⟨(unhide KE h1 h2).1, (Below.heap_alloc _ _ _ (Array.getElem?_eq_some_iff.1 (unhide KE h1 h2).2).1).trans (unhide KE h1 h2).2⟩), (fun _ _ => heap_alloc_new W _), (fun h1 h2 _ => by have h4 := (Array.getElem?_eq_some_iff.1 (unhide KE h1 h2).2).1; omega), (fun h1 h2 => World.ownsRow.alloc (unhide KR h1 h2) _), (fun h1 => World.ownsRow.alloc (unhide KS h1) _), (fun h => ⟨(unhide KC h).1, rfl⟩), unhide KD⟩
    · intro h0 hd K hK
      have z : u13 = false := h0
      have KE := hide kE
      have KT := hide kT
      have KN := hide kN
      have KR := hide kR
      have KS := hide kS
      have KC := hide kC
      have KD := hide kD
      have HBW := hide hB
      have c1 := keep1 hB a1
      have d0 := keep1 hB b0
      have d1 := keep1 hB b1
      clear hB kE kT kN kR kS kC kD
      have zd : u3 = true ∧ u12 = true := by
        simp [Region.binds] at hd
        simp [hd]
      obtain ⟨rfl, rfl⟩ := zd
      subst z
      clear h0 hd
      rw [if_pos (by rfl)]
      have z14 : u14 = false := by
        cases hq : u14 with
        | false => rfl
        | true => exact absurd (unhide KD hq) (by decide)
      subst z14
      have hr := unhide KR rfl rfl
      have ht := unhide KT rfl rfl
      refine wp_append_own W (.tmp 13) (.tmp 22) 23 (by rfl) V.heap.size 35 i0 _ 4 32 Try.underlying23 hi hz0 hz1 hz2 rfl (by omega) v1 l (L.map (Value.int .i64)) (by rfl) hr ⟨t, 0, none⟩ 2 2 ((ext pt x y).map (Value.int .i64)) (by rfl) (by rfl) (blk_cells ht) ints_one (by unfold maxLen; omega) (by omega) (unhide HBW).size ?_
      intro v2' w1 hown' hgrow _
      have R := own_more (wr := W) (L := L) (news := ext pt x y) (Below.refl _ _) (unhide HBW).size hr hown' hgrow
      exact unhide hK _ _ ⟨u0, u1, u2, true, u4, u5, u6, u7, u8, u9, u10, u11, true, true, false, p, t, v1, v2', rfl, rfl, (unhide HBW).trans R.2, (fun _ h => nomatch h), (fun _ h => nomatch h), (fun _ h => nomatch h), (fun _ h => nomatch h), (fun _ => R.1), (fun _ => ⟨rfl, rfl⟩), (fun h => nomatch h)⟩
    · intro h0 hd K hK
      have z : u14 = false := h0
      have KE := hide kE
      have KT := hide kT
      have KN := hide kN
      have KR := hide kR
      have KS := hide kS
      have KC := hide kC
      have KD := hide kD
      have HBW := hide hB
      have c1 := keep1 hB a1
      have d0 := keep1 hB b0
      have d1 := keep1 hB b1
      clear hB kE kT kN kR kS kC kD
      have zd : u13 = true := by
        simp [Region.binds] at hd
        simp [hd]
      obtain ⟨rfl⟩ := zd
      subst z
      clear h0 hd
      rw [if_pos (by rfl)]
      go_simp
      exact unhide hK _ _ ⟨u0, u1, u2, u3, u4, u5, u6, u7, u8, u9, u10, u11, u12, true, true, p, t, v1, v2, rfl, rfl, unhide HBW, unhide KE, unhide KT, unhide KN, unhide KR, unhide KS, unhide KC, (fun _ => rfl)⟩
  case hend =>
    rintro Lb A W ⟨u0, u1, u2, u3, u4, u5, u6, u7, u8, u9, u10, u11, u12, u13, u14, p, t, v1, v2, rfl, rfl, hB, kE, kT, kN, kR, kS, kC, kD⟩ hL
    have hl : u0 = true ∧ u1 = true ∧ u2 = true ∧ u3 = true ∧ u4 = true ∧ u5 = true ∧ u6 = true ∧ u7 = true ∧ u8 = true ∧ u9 = true ∧ u10 = true ∧ u11 = true ∧ u12 = true ∧ u13 = true ∧ u14 = true := by
      have h2 := congrArg Array.toList hL
      simpa [List.replicate] using h2
    obtain ⟨rfl, rfl, rfl, rfl, rfl, rfl, rfl, rfl, rfl, rfl, rfl, rfl, rfl, rfl, rfl⟩ := hl
    have hr := kS rfl
    clear hL kE kT kN kR kS kC kD
    simp only [cond_true]
    have HB3 := hide hB
    have r0 := keep1 hB a0
    obtain ⟨q, cap, rfl, hq1, hq2, hq3, _, _⟩ := hr.full (by omega)
    have HQ := hide hq3
    clear hq3 hr hB
    go_wp2_with fail
    refine (unhide HS _ q cap hq2 (unhide HQ)).mono ?_
    rintro e W5 ⟨⟨a, b, rfl, hs1, hs2⟩, hb⟩
    have HS1 := hide hs1
    have HS2 := hide hs2
    have HB5 : Hid (Below w.heap.size w W5) := hide (bc (bc (unhide HB2) (unhide HB3)) hb)
    clear hs1 hs2 hb
    go_wp2_with fail
    exact bodyPost_ret (v := .tuple #[a, .int .i64 cc, b]) (by simp [results, Try.results17, go_sem]) rfl ⟨⟨_, _, rfl, unhide HS1, unhide HS2⟩, unhide HB5⟩
end Go.Proofs.Ytchdmigeopmacaa
