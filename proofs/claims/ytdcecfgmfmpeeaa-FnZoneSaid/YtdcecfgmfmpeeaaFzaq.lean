/-
  near: drawn points that lie near.
-/
import Derived.Test.YtdcecfgmfmpeeaaRgIq
namespace Go.Proofs.Ytdcecfgmfmpeeaa
open Go.ChangeShapes Go.WideShapes Go.ChangeAt Go.RowKit
set_option linter.unusedVariables false
set_option linter.unusedSimpArgs false
theorem Row.block {w : World} {B t k : Nat} {v : Value} {n : Nat} {L : List Int} (h : Row w B t k v n L) (hn : n ≠ 0) :
  ∃ g cap vs, v = .slice (some ⟨g, 0, none⟩) n cap ∧ B ≤ g ∧ cb w g t vs ∧ vs.take (n * k) = L.map (Value.int .i64) ∧ n ≤ cap ∧ cap ≤ 9223372036854775807 := by
 obtain ⟨g, cap, hv, h1, h2, h3, h4, h5⟩ := h.full hn
 rcases h.2 with ⟨rfl, h0⟩ | ⟨g', cap', cur, hv', hb, hh, hn', hm, hs, ht⟩
 ·exact absurd h0 hn
 ·rw [hv] at hv'
  cases hv'
  refine ⟨g, cap, cur.toList, hv, h1, ?_, ht, h4, h5⟩
  unfold cb
  rw [hh]
structure Pb (w : World) (g t : Nat) (L : List Pt) : Prop where
 ex : ∃ vs, cb w g t vs ∧ vs.take (L.length * 2) = (flat2 L).map (Value.int .i64)
theorem Pb.ints {w : World} {g t : Nat} {L : List Pt} (h : Pb w g t L) : IntsAt w g 0 (flat2 L) := by
 obtain ⟨vs, hc, hv⟩ := h.ex
 intro j x hj
 rw [Nat.zero_add]
 refine hc.cell ?_
 have hl : j < L.length * 2 := by rw [← flat2_len]; exact (List.getElem?_eq_some_iff.1 hj).1
 have h1 : (vs.take (L.length * 2))[j]? = some (.int .i64 x) := by rw [hv, List.getElem?_map, hj]; rfl
 rw [List.getElem?_take, if_pos hl] at h1
 exact h1
theorem Pb.lt {w : World} {g t : Nat} {L : List Pt} (h : Pb w g t L) : g < w.heap.size := by
 obtain ⟨vs, hc, hv⟩ := h.ex
 exact hc.lt
theorem Pb.frozen {w : World} {g t : Nat} {L : List Pt} (h : Pb w g t L) (o : Nat) : w.frozen? ⟨g, o, none⟩ = false := by
 obtain ⟨vs, hc, hv⟩ := h.ex
 exact hc.frozen o
theorem Pb.mv {w w' : World} {g g' t : Nat} {L : List Pt} (h : Pb w g t L) (m : Mv g' w w') (hg : g ≠ g') : Pb w' g t L := by
 obtain ⟨vs, hc, hv⟩ := h.ex
 exact ⟨vs, (m.block g hc.lt hg).trans hc, hv⟩
theorem Pb.put {w : World} {g t : Nat} {L : List Pt} (h : Pb w g t L) (i : Nat) (x y : Int) (hi : i < L.length) : Pb ((w.setCell ⟨g, i * 2, none⟩ (.int .i64 x)).setCell ⟨g, i * 2 + 1, none⟩ (.int .i64 y)) g t (L.set i (x, y)) := by
 obtain ⟨vs, hc, hv⟩ := h.ex
 refine ⟨_, (hc.set (i * 2) (.int .i64 x)).set (i * 2 + 1) (.int .i64 y), ?_⟩
 rw [List.length_set, List.take_set, List.take_set, hv, ← flat2_set L i x y hi, List.map_set, List.map_set]
theorem Pb.putY {w : World} {g t : Nat} {L : List Pt} (h : Pb w g t L) (i : Nat) (x y0 y : Int) (hx : L[i]? = some (x, y0)) : Pb (w.setCell ⟨g, i * 2 + 1, none⟩ (.int .i64 y)) g t (L.set i (x, y)) := by
 obtain ⟨vs, hc, hv⟩ := h.ex
 have hi : i < L.length := (List.getElem?_eq_some_iff.1 hx).1
 refine ⟨_, hc.set (i * 2 + 1) (.int .i64 y), ?_⟩
 rw [List.length_set, List.take_set, hv, ← flat2_set L i x y hi, List.map_set, List.map_set]
 have e : ((flat2 L).map (Value.int .i64)).set (i * 2) (.int .i64 x) = (flat2 L).map (Value.int .i64) := by
  refine List.ext_getElem? (fun j => ?_)
  by_cases hj : i * 2 = j
  ·subst hj
   rw [List.getElem?_set_self (by rw [List.length_map, flat2_len]; omega), List.getElem?_map, (flat2_at hx).1]
   rfl
  ·rw [List.getElem?_set_ne hj]
 rw [e]
theorem Nrl.set {L : List Pt} (h : Nrl L) (i : Nat) {p : Pt} (hp : Nr1 p) : Nrl (L.set i p) := fun q hq => by
 rcases List.mem_or_eq_of_mem_set hq with h1 | h1
 ·exact h q h1
 ·rw [h1]; exact hp
theorem size_cases (r : Int) (h0 : 0 ≤ r) (h1 : r < 4) : ∃ i : Nat, r = (i : Int) ∧ i < 4 ∧ ∃ s : Nat, gt [4, 12, 60, 401] i = (s : Int) ∧ 4 ≤ s ∧ s ≤ 401 := by
 obtain ⟨i, rfl⟩ := Int.eq_ofNat_of_zero_le h0
 refine ⟨i, rfl, by omega, ?_⟩
 match i, h1 with
 | 0, _ => exact ⟨4, rfl, by decide, by decide⟩
 | 1, _ => exact ⟨12, rfl, by decide, by decide⟩
 | 2, _ => exact ⟨60, rfl, by decide, by decide⟩
 | 3, _ => exact ⟨401, rfl, by decide, by decide⟩
 | k + 4, h => omega
set_option maxHeartbeats 4000000 in
set_option maxRecDepth 100000 in
theorem near_any {B g : Nat} {w : World} (h : So B g 0 w) :
  Calls Try.prog 20 #[.pointer (some ⟨g, 0, none⟩)] w fun e w' => ∃ (gp c : Nat) (L : List Pt), e = .returned (.slice (some ⟨gp, 0, none⟩) L.length c) ∧ 1 ≤ L.length ∧ L.length ≤ 23 ∧ L.length ≤ c ∧ Nrl L ∧ w.heap.size ≤ gp ∧ Pb w' gp 30 L ∧ Mv g w w' := by
 obtain ⟨iP, hi1, hy0, hy1, hy2⟩ := info_parts info26
 have H0 := hide h
 have hgl := h.lt
 have M0 : Hid (Mv g w ((w.alloc (.cells #[] 30)).alloc (.cells #[.int .i64 4, .int .i64 12, .int .i64 60, .int .i64 401] 3))) := hide (((Mv.refl g w).alloc _).alloc _)
 have S0 : Hid (So B g 0 ((w.alloc (.cells #[] 30)).alloc (.cells #[.int .i64 4, .int .i64 12, .int .i64 60, .int .i64 401] 3))) := hide ((h.alloc _).alloc _)
 have R0 : Hid (Row ((w.alloc (.cells #[] 30)).alloc (.cells #[.int .i64 4, .int .i64 12, .int .i64 60, .int .i64 401] 3)) w.heap.size 30 2 (.slice (some ⟨w.heap.size, 0, none⟩) 0 0) 0 []) := hide ((row_made w 30 w.heap.size 2 (Nat.le_refl _) w.heap.size rfl).below (ba (Below.refl _ _) _))
 have A0 : Hid (iblk ((w.alloc (.cells #[] 30)).alloc (.cells #[.int .i64 4, .int .i64 12, .int .i64 60, .int .i64 401] 3)) (w.heap.size + 1) 3 [4, 12, 60, 401]) := hide (by
  have hh := iblk_new (w.alloc (.cells #[] 30)) 3 [4, 12, 60, 401]
  have e : (w.alloc (.cells #[] 30)).heap.size = w.heap.size + 1 := by simp
  rw [e] at hh
  exact hh)
 clear h
 go_enter Try.func20, Try.ntmps20
 go_wp2_with fail
 generalize (w.alloc (.cells #[] 30)).alloc (.cells #[.int .i64 4, .int .i64 12, .int .i64 60, .int .i64 401] 3) = V0 at *
 refine (next_any (k := 0) 4 (zu S0) (by omega) (by omega) (by omega)).mono ?_
 rintro e V1 ⟨r, rfl, r0, r1, hs1, mv1⟩
 obtain ⟨q, rfl, hq, s, hgs, hs4, hs5⟩ := size_cases r r0 r1
 have hA := ((zu A0).ints)
 have hc1 : V1.cell? ⟨w.heap.size + 1, q, none⟩ = some (.int .i64 (s : Int)) := by
  have h1 := cells_of hA (j := q) (x := (s : Int)) (by rw [← hgs]; exact gtk_some (by simpa using hq))
  exact mv1.cell (by omega) h1
 have S1 := hide hs1
 have M1 := hide ((zu M0).trans mv1)
 have R1 := hide ((zu R0).kept' (fun y hy => by simp only [Value.ownBlock, Option.some.injEq] at hy; subst hy; exact mv1.block _ (by have := (zu A0).lt; omega) (by omega)))
 have qi : (q : Int) < 4 := by omega
 have q0 : (0 : Int) ≤ (q : Int) := by omega
 clear hs1 mv1 M0 S0 R0 A0 hA hgs r0 r1
 go_wp2_with fail
 refine (size_any 20 (zu S1) (by omega) (by omega)).mono ?_
 rintro e V2 ⟨z, rfl, z1, z2, hz⟩
 rw [hz]
 clear hz hc1
 have wz : IntKind.i64.wrap (z + 3) = z + 3 := wrap_i (by omega) (by omega)
 go_wp2_with fail
 refine (next_any (k := 0 + 3) (z + 3) (zu S1) (by omega) (by omega) (by omega)).mono ?_
 rintro e V3 ⟨m, rfl, m0, m1, hs3, mv3⟩
 obtain ⟨M, rfl⟩ := Int.eq_ofNat_of_zero_le m0
 have S3 := hide hs3
 have M3 := hide ((zu M1).trans mv3)
 have R3 := hide ((zu R1).mv mv3 hgl)
 have wm : IntKind.i64.wrap (1 + (M : Int)) = ((1 + M : Nat) : Int) := (wrap_i (by omega) (by omega)).trans (by omega)
 have hM : M ≤ 22 := by omega
 clear hs3 mv3 S1 M1 R1 m0 m1
 go_wp2_with fail
 go_loopw [3, 5] (fun v z X => ∃ (i : Nat) (L : List Pt), z = .int .i64 (i : Int) ∧ i + L.length = 1 + M ∧ Nrl L ∧ Row X w.heap.size 30 2 v L.length (flat2 L) ∧ So B g (6 + 6 * (L.length : Int)) X ∧ Mv g w X) (fun _ z _ => (intOf z).toNat)
 case atStart => exact ⟨1 + M, [], by simp, by simp, (fun p hp => by cases hp), zu R3, by simpa using zu S3, zu M3⟩
 case round =>
  obtain ⟨i, L, rfl, hiL, hok, hrow, hso, hbb⟩ := hrel
  have HOK := hide hok
  have HRW := hide hrow
  have HSO := hide hso
  have HMM := hide hbb
  clear hok hrow hso hbb R3 S3 M3
  by_cases hi : 0 < i
  ·have iz : decide ((0 : Int) < (i : Int)) = true := decide_eq_true (by omega)
   obtain ⟨u, c, rfl, _⟩ := (zu HRW).form
   obtain ⟨hf, hhf⟩ : ∃ hf : Nat, s / 2 = hf := ⟨_, rfl⟩
   have hd : ((s : Int)).tdiv 2 = (hf : Int) := by rw [← hhf, Int.tdiv_eq_ediv_of_nonneg (by omega)]; rfl
   have hf2 : hf ≤ 200 ∧ (s : Int) ≤ 2 * hf + 1 := by omega
   go_wp2_with fail
   refine (next_any (s : Int) (zu HSO) (by omega) (by omega) (by omega)).mono ?_
   rintro e V4 ⟨x, rfl, x0, x1, hs4, mv4⟩
   have S4 := hide hs4
   have M4 := hide ((zu HMM).trans mv4)
   have R4 := hide ((zu HRW).mv mv4 hgl)
   have wx : IntKind.i64.wrap (x - (hf : Int)) = x - (hf : Int) := wrap_i (by omega) (by omega)
   clear hs4 mv4
   go_wp2_with fail
   refine (next_any (s : Int) (zu S4) (by omega) (by omega) (by omega)).mono ?_
   rintro e V5 ⟨y, rfl, y0, y1, hs5', mv5⟩
   have S5 := hide hs5'
   have M5 := hide ((zu M4).trans mv5)
   have R5 := hide ((zu R4).mv mv5 hgl)
   have hsz5 := (zu M5).size
   have wy : IntKind.i64.wrap (y - (hf : Int)) = y - (hf : Int) := wrap_i (by omega) (by omega)
   have hP : Nr1 (x - (hf : Int), y - (hf : Int)) := ⟨by simp only; omega, by simp only; omega, by simp only; omega, by simp only; omega⟩
   clear hs5' mv5 S4 M4 R4
   go_wp2_with (at_builtin; refine zu ?_)
   refine hide ?_
   refine wpList_append_own _ rfl _ _ 23 rfl w.heap.size 30 iP _ 2 16 Try.underlying23 hi1 hy0 hy1 hy2 rfl (by decide) _ _ _ rfl ((zu R5).alloc _) _ 1 1 ([x - (hf : Int), y - (hf : Int)].map (Value.int .i64)) rfl rfl (by first | exact news_cells _ _ rfl | exact news_cells _ _ (by simp) | exact news_drew _ _ (by simp)) ints_one (by unfold maxLen; omega) (by omega) (by simp; omega) ?_
   intro v' wz' hown' hgrow _
   have R := hide (own_more (wr := V5) (news := [x - (hf : Int), y - (hf : Int)]) (by repeat (first | exact Below.refl _ _ | refine Below.alloc ?_ (by first | omega | (simp; omega)) _ | refine Below.drew ?_)) (by simp; omega) (zu R5) hown' hgrow)
   have wi : IntKind.i64.wrap ((i : Int) - 1) = (i : Int) - 1 := wrap_i (by omega) (by omega)
   have HSF := hide ((zu S5).belB (zu R).2 hgl)
   have HMF : Hid (Mv g w wz') := hide ((zu M5).belB (zu R).2 (Nat.le_refl _))
   clear hown' hgrow
   go_wp2_with fail
   go_roundw
   case rel =>
    have H : ∃ (i' : Nat) (L' : List Pt), Value.int .i64 ((i : Int) - 1) = .int .i64 (i' : Int) ∧ i' + L'.length = 1 + M ∧ Nrl L' ∧ Row wz' w.heap.size 30 2 v' L'.length (flat2 L') ∧ So B g (6 + 6 * (L'.length : Int)) wz' ∧ Mv g w wz' := by
     refine ⟨i - 1, L ++ [(x - (hf : Int), y - (hf : Int))], by congr 1; omega, by simp; omega, (zu HOK).snoc hP, ?_, ?_, zu HMF⟩
     ·rw [List.length_append, flat2_app]
      exact (zu R).1
     ·refine (zu HSF).up ?_
      simp
      omega
    first | exact H | ((repeat apply Exists.intro); refine ⟨?_, rfl⟩; exact H)
   case measure => first | (simp only [intOf]; omega) | (simp [intOf]; omega)
  ·have iz : decide ((0 : Int) < (i : Int)) = false := decide_eq_false (by omega)
   have hL : L.length = 1 + M := by omega
   obtain ⟨gp, c, vs, rfl, hg1, hcb, hvt, hc1, hc2⟩ := (zu HRW).block (by omega)
   have HPB : Hid (Pb wr gp 30 L) := hide ⟨vs, hcb, hvt⟩
   obtain ⟨n, hn⟩ : ∃ n, L.length = n := ⟨_, rfl⟩
   have HLN := hide hn
   have hn1 : 1 ≤ n ∧ n ≤ 23 ∧ n ≤ c := by omega
   have hgg : gp ≠ g := by omega
   rw [hn] at hc1 ⊢
   clear hL hcb hvt hiL HRW hn
   go_wp2_with fail
   refine (next_any 9 (zu HSO) (by have := zu HLN; omega) (by omega) (by omega)).mono ?_
   rintro e V4 ⟨sw, rfl, w0, w1, hs4, mv4⟩
   have M4 := hide ((zu HMM).trans mv4)
   have P4 := hide ((zu HPB).mv mv4 hgg)
   clear hs4 mv4 HMM HPB HSO
   by_cases k0 : sw = 0
   ·subst k0
    go_wp2_with fail
    go_loopw [6] (fun z X => ∃ (i : Nat) (L' : List Pt), z = .int .i64 (i : Int) ∧ i ≤ n ∧ L'.length = n ∧ Nrl L' ∧ Pb X gp 30 L' ∧ Mv g w X) (fun z _ => n - (intOf z).toNat)
    case atStart => exact ⟨0, L, rfl, Nat.zero_le _, zu HLN, zu HOK, zu P4, zu M4⟩
    case round =>
     obtain ⟨j, L', rfl, hj, hl', hnr, hpb, hmv⟩ := hrel
     have HL' := hide hl'
     have HNR := hide hnr
     have HPB := hide hpb
     have HMV := hide hmv
     clear hl' hnr hpb hmv P4 M4
     by_cases hjn : j < n
     ·have j1 : (j : Int) < (n : Int) := by omega
      have j0 : (0 : Int) ≤ (j : Int) := by omega
      have jz : decide ((j : Int) < (n : Int)) = true := decide_eq_true j1
      have hx := ptAt_some (L := L') (i := j) (by rw [zu HL']; exact hjn)
      have hN1 := (zu HNR).at (i := j) (by rw [zu HL']; exact hjn)
      obtain ⟨⟨x, y⟩, hxy⟩ : ∃ q, ptAt L' j = q := ⟨_, rfl⟩
      rw [hxy] at hx hN1
      obtain ⟨c0, c1⟩ := pts_at (zu HPB).ints hx
      have fz := (zu HPB).frozen
      obtain ⟨n1', n2', n3', n4'⟩ := hN1
      simp only at n1' n2' n3' n4'
      have w2 : IntKind.i64.wrap (2 * x) = 2 * x := wrap_i (by omega) (by omega)
      obtain ⟨r, hr⟩ : ∃ r, (2 * x).tmod 100 = r := ⟨_, rfl⟩
      have hrb : -100 < r ∧ r < 100 := by
       rw [← hr]
       have h1 := Int.tmod_lt_of_pos (2 * x) (show (0 : Int) < 100 by omega)
       have h2 := Int.lt_tmod_of_pos (2 * x) (show (0 : Int) < 100 by omega)
       omega
      have w3 : IntKind.i64.wrap (r + 1) = r + 1 := wrap_i (by omega) (by omega)
      have wj : IntKind.i64.wrap ((j : Int) + 1) = (j : Int) + 1 := wrap_i (by omega) (by omega)
      have HX := hide hx
      clear hx hxy
      go_wp2_with fail
      have PN := hide ((zu HPB).putY j x y (r + 1) (zu HX))
      have MN := hide ((zu HMV).new hg1 (j * 2 + 1) (.int .i64 (r + 1)))
      go_roundw
      case rel =>
       have H : ∃ (i' : Nat) (L' : List Pt), Value.int .i64 ((j : Int) + 1) = .int .i64 (i' : Int) ∧ i' ≤ n ∧ L'.length = n ∧ Nrl L' ∧ Pb (wr.setCell ⟨gp, j * 2 + 1, none⟩ (.int .i64 (r + 1))) gp 30 L' ∧ Mv g w (wr.setCell ⟨gp, j * 2 + 1, none⟩ (.int .i64 (r + 1))) :=
         ⟨j + 1, L'.set j (x, r + 1), by simp, hjn, by rw [List.length_set]; exact zu HL', (zu HNR).set j ⟨by simp only; omega, by simp only; omega, by simp only; omega, by simp only; omega⟩, zu PN, zu MN⟩
       first | exact H | ((repeat apply Exists.intro); refine ⟨?_, rfl⟩; exact H)
      case measure => first | (simp only [intOf]; omega) | (simp [intOf]; omega)
     ·have j1 : ¬ (j : Int) < (n : Int) := by omega
      have jz : decide ((j : Int) < (n : Int)) = false := decide_eq_false j1
      go_wp2_with fail
      go_ret
      refine ⟨gp, c, L', ?_, by rw [zu HL']; omega, by rw [zu HL']; omega, by rw [zu HL']; omega, zu HNR, hg1, zu HPB, zu HMV⟩
      rw [zu HL']
      rfl
   ·by_cases k1 : sw = 1
    ·subst k1
     go_wp2_with fail
     go_loopw [7] (fun z X => ∃ (i : Nat) (L' : List Pt), z = .int .i64 (i : Int) ∧ i ≤ n ∧ L'.length = n ∧ Nrl L' ∧ Pb X gp 30 L' ∧ Mv g w X) (fun z _ => n - (intOf z).toNat)
     case atStart => exact ⟨0, L, rfl, Nat.zero_le _, zu HLN, zu HOK, zu P4, zu M4⟩
     case round =>
      obtain ⟨j, L', rfl, hj, hl', hnr, hpb, hmv⟩ := hrel
      have HL' := hide hl'
      have HNR := hide hnr
      have HPB := hide hpb
      have HMV := hide hmv
      clear hl' hnr hpb hmv P4 M4
      by_cases hjn : j < n
      ·have j1 : (j : Int) < (n : Int) := by omega
       have j0 : (0 : Int) ≤ (j : Int) := by omega
       have jz : decide ((j : Int) < (n : Int)) = true := decide_eq_true j1
       have hx := ptAt_some (L := L') (i := 0) (by rw [zu HL']; omega)
       have hN1 := (zu HNR).at (i := 0) (by rw [zu HL']; omega)
       obtain ⟨⟨x, y⟩, hxy⟩ : ∃ q, ptAt L' 0 = q := ⟨_, rfl⟩
       have hxj := ptAt_some (L := L') (i := j) (by rw [zu HL']; exact hjn)
       obtain ⟨⟨xj, yj⟩, hxyj⟩ : ∃ q, ptAt L' j = q := ⟨_, rfl⟩
       rw [hxy] at hx hN1
       rw [hxyj] at hxj
       obtain ⟨c0, c1⟩ := pts_at (zu HPB).ints hx
       obtain ⟨d0, d1⟩ := pts_at (zu HPB).ints hxj
       simp only [Nat.zero_mul, Nat.zero_add] at c0 c1
       have fz := (zu HPB).frozen
       have n0 : (0 : Int) < (n : Int) := by omega
       have n0' : 0 < n := by omega
       have wj : IntKind.i64.wrap ((j : Int) + 1) = (j : Int) + 1 := wrap_i (by omega) (by omega)
       have PN := hide ((zu HPB).put j x y (by rw [zu HL']; exact hjn))
       have MN := hide (((zu HMV).new hg1 (j * 2) (.int .i64 x)).new hg1 (j * 2 + 1) (.int .i64 y))
       have HN1 := hide hN1
       clear hx hxy hxj hxyj hN1
       go_wp2_with fail
       go_roundw
       case rel =>
        have H : ∃ (i' : Nat) (L' : List Pt), Value.int .i64 ((j : Int) + 1) = .int .i64 (i' : Int) ∧ i' ≤ n ∧ L'.length = n ∧ Nrl L' ∧ Pb ((wr.setCell ⟨gp, j * 2, none⟩ (.int .i64 x)).setCell ⟨gp, j * 2 + 1, none⟩ (.int .i64 y)) gp 30 L' ∧ Mv g w ((wr.setCell ⟨gp, j * 2, none⟩ (.int .i64 x)).setCell ⟨gp, j * 2 + 1, none⟩ (.int .i64 y)) :=
          ⟨j + 1, L'.set j (x, y), by simp, hjn, by rw [List.length_set]; exact zu HL', (zu HNR).set j (zu HN1), zu PN, zu MN⟩
        first | exact H | ((repeat apply Exists.intro); refine ⟨?_, rfl⟩; exact H)
       case measure => first | (simp only [intOf]; omega) | (simp [intOf]; omega)
      ·have j1 : ¬ (j : Int) < (n : Int) := by omega
       have jz : decide ((j : Int) < (n : Int)) = false := decide_eq_false j1
       go_wp2_with fail
       go_ret
       refine ⟨gp, c, L', ?_, by rw [zu HL']; omega, by rw [zu HL']; omega, by rw [zu HL']; omega, zu HNR, hg1, zu HPB, zu HMV⟩
       rw [zu HL']
       rfl
    ·have e0 : (sw == 0) = false := beq_eq_false_iff_ne.2 k0
     have e1 : (sw == 1) = false := beq_eq_false_iff_ne.2 k1
     go_wp2_with fail
     go_ret
     refine ⟨gp, c, L, ?_, by rw [zu HLN]; omega, by rw [zu HLN]; omega, by rw [zu HLN]; omega, zu HOK, hg1, zu P4, zu M4⟩
     rw [zu HLN]
     rfl
theorem nearOf_any (a : Option Addr) (len cap : Nat) (zs : List Int) (w : World) (hc : Code w.heap.size w a len cap zs) (hl : len ≤ 9223372036854775807) :
  Calls Try.prog 6 #[.slice a len cap] w fun e w' => ∃ (gp c : Nat) (L : List Pt), e = .returned (.slice (some ⟨gp, 0, none⟩) L.length c) ∧ 1 ≤ L.length ∧ L.length ≤ 23 ∧ L.length ≤ c ∧ Nrl L ∧ w.heap.size ≤ gp ∧ gp < w'.heap.size ∧ IntsAt w' gp 0 (flat2 L) ∧ Below w.heap.size w w' := by
 have HSO := hide (source_any a len cap zs w hc hl)
 clear hc
 go_enter Try.func6, Try.ntmps6
 go_wp2_with fail
 refine (zu HSO).mono ?_
 rintro e W1 ⟨rfl, hb1, hs1⟩
 have HB1 := hide hb1
 have H1 := hide hs1
 clear hb1 hs1 HSO
 go_wp2_with fail
 refine (near_any (zu H1)).mono ?_
 rintro e W2 ⟨gp, c, L, rfl, l1, l2, l3, hnr, hgp, hpb, hmv⟩
 have HB2 : Hid (Below w.heap.size w W2) := hide (Mv.bel' (zu HB1) hmv (Nat.le_refl _))
 have HP := hide hpb
 have HN := hide hnr
 have hgs : w.heap.size ≤ gp := Nat.le_trans (zu HB1).size hgp
 obtain ⟨n, hn⟩ : ∃ n, L.length = n := ⟨_, rfl⟩
 have HLN := hide hn
 rw [hn] at l1 l2 l3 ⊢
 clear hpb hnr hmv hn
 go_wp2_with fail
 go_ret
 refine ⟨gp, c, L, ?_, by rw [zu HLN]; omega, by rw [zu HLN]; omega, by rw [zu HLN]; omega, zu HN, hgs, (zu HP).lt, (zu HP).ints, zu HB2⟩
 rw [zu HLN]
 rfl
end Go.Proofs.Ytdcecfgmfmpeeaa
