/-
  The order of points, as the program asks it: comparing, the lesser and the greater of two. The library's generic functions at this program's points and sides, laid by its own program in plain words. The program asks of a list of points whether all are right; Turn of both sides. A strip without width; the narrowest of strips.
-/
import Derived.Test.YtdcecfgmfmpeeaaHtaq
import Derived.Shelf.SlicesQ.IndexFunc
import Derived.Shelf.SlicesQ.Contains
import Derived.Shelf.SlicesQ.Reverse
import Derived.Shelf.SlicesE.Clone
import Derived.Test.YtdcecfgmfmpeeaaProg
import Derived.Test.YtdcecfgmfmpeeaaZfnq
import Derived.Test.YtdcecfgmfmpeeaaZalq
namespace Go.Proofs.Ytdcecfgmfmpeeaa
open Go.ChangeShapes Go.WideShapes Go.ChangeAt Go.RowKit
set_option linter.unusedVariables false
set_option linter.unusedSimpArgs false
def cmpP (a b : Pt) : Int := orI (cmpI a.1 b.1) (cmpI a.2 b.2)
theorem cmpP_eq (a b : Pt) : cmpP a b = if ltp a b = true then -1 else if ltp b a = true then 1 else 0 := by
 obtain ⟨a1, a2⟩ := a
 obtain ⟨b1, b2⟩ := b
 simp only [cmpP, cmpI, orI, ltp, decide_eq_true_eq]
 by_cases h1 : a1 < b1
 ·simp [h1]
 ·by_cases h2 : b1 < a1
  ·simp [h1, h2]; omega
  ·have h3 : a1 = b1 := by omega
   subst h3
   simp
theorem cmpP_neg (a b : Pt) : decide (cmpP a b < 0) = ltp a b := by
 rw [cmpP_eq]
 cases h : ltp a b
 ·cases h2 : ltp b a <;> simp
 ·simp
set_option maxRecDepth 100000 in
set_option maxHeartbeats 1000000 in
theorem cmp_ints (a1 a2 b1 b2 : Int) (w : World) :
  Calls Try.prog 36 #[.agg #[.int .i64 a1, .int .i64 a2], .agg #[.int .i64 b1, .int .i64 b2]] w fun e w' => e = .returned (.int .i64 (orI (cmpI a1 b1) (cmpI a2 b2))) ∧ ∃ q, w' = (((w.alloc (.cells #[.int .i64 a1, .int .i64 a2] 30)).alloc (.cells #[.int .i64 b1, .int .i64 b2] 30)).drewN q).alloc (.cells #[.int .i64 (cmpI a1 b1), .int .i64 (cmpI a2 b2)] 3) := by
 go_enter Try.func36, Try.ntmps36
 go_wp2_with fail
 go_region_held3 (fun wx => wx.cell? ⟨w.heap.size, 0, none⟩ = some (.int .i64 a1) ∧ wx.cell? ⟨w.heap.size, 1, none⟩ = some (.int .i64 a2) ∧ wx.cell? ⟨w.heap.size + 1, 0, none⟩ = some (.int .i64 b1) ∧ wx.cell? ⟨w.heap.size + 1, 1, none⟩ = some (.int .i64 b2))
  (simp (maxDischargeDepth := 12) [go_sem, le1, lt1, *])
  (first
  | (go_at_call 56; refine (compare_any _ _ _).mono ?_; rintro e w' ⟨rfl, rfl⟩)
  | (go_at_call 63; refine (or_any _ _ _ _ _ (by simp [go_sem]; rfl) (by simp [go_sem]; rfl)).mono ?_; rintro e w' ⟨rfl, rfl⟩))
 all_goals
  go_wp2_with fail
  go_ret
  exact ⟨rfl, 1, rfl⟩
open Go.Shelf
def Try.l50_ren : Go.Shelf.Ren := ⟨fun | 8 => 50 | 6 => 73 | n => n, fun | 22 => 23 | 23 => 30 | 25 => 88 | 4 => 4 | 3 => 3 | 0 => 0 | n => n, fun | n => n⟩
theorem Try.l50 : Go.Proofs.SlLaysH0.n8 Try.prog Try.l50_ren := {
 mixed := by kernel_rfl
 f6 := ⟨Try.f73.name, by decide, Try.func73.trans (congrArg some (by kernel_rfl))⟩
 f8 := ⟨Try.f50.name, by decide, Try.func50.trans (congrArg some (by kernel_rfl))⟩
 t0 := Try.underlying0
 a0 := Try.isAgg0
 z0 := Try.sizeOf0
 v0 := Try.zeroValue0
 t3 := Try.underlying3
 a3 := Try.isAgg3
 z3 := Try.sizeOf3
 v3 := Try.zeroValue3
 t4 := Try.underlying4
 a4 := Try.isAgg4
 z4 := Try.sizeOf4
 v4 := Try.zeroValue4
 t22 := Try.underlying23
 a22 := Try.isAgg23
 z22 := Try.sizeOf23
 v22 := Try.zeroValue23
 t25 := Try.underlying88
 a25 := Try.isAgg88
 z25 := Try.sizeOf88
 v25 := Try.zeroValue88 }
def Try.l39_ren : Go.Shelf.Ren := ⟨fun | 35 => 39 | n => n, fun | 22 => 23 | 23 => 30 | 3 => 3 | 4 => 4 | 0 => 0 | n => n, fun | n => n⟩
theorem Try.l39 : Go.Proofs.SlLaysE0.n35 Try.prog Try.l39_ren := {
 mixed := by kernel_rfl
 f35 := ⟨Try.f39.name, by decide, Try.func39.trans (congrArg some (by kernel_rfl))⟩
 t0 := Try.underlying0
 a0 := Try.isAgg0
 z0 := Try.sizeOf0
 v0 := Try.zeroValue0
 t3 := Try.underlying3
 a3 := Try.isAgg3
 z3 := Try.sizeOf3
 v3 := Try.zeroValue3
 t4 := Try.underlying4
 a4 := Try.isAgg4
 z4 := Try.sizeOf4
 v4 := Try.zeroValue4
 t22 := Try.underlying23
 a22 := Try.isAgg23
 z22 := Try.sizeOf23
 v22 := Try.zeroValue23 }
def Try.l34_ren : Go.Shelf.Ren := ⟨fun | 41 => 34 | n => n, fun | 22 => 23 | 23 => 30 | 4 => 4 | n => n, fun | n => n⟩
theorem Try.l34 : Go.Proofs.SlLaysE0.n41 Try.prog Try.l34_ren := {
 mixed := by kernel_rfl
 f41 := ⟨Try.f34.name, by decide, Try.func34.trans (congrArg some (by kernel_rfl))⟩
 t4 := Try.underlying4
 a4 := Try.isAgg4
 z4 := Try.sizeOf4
 v4 := Try.zeroValue4
 t22 := Try.underlying23
 a22 := Try.isAgg23
 z22 := Try.sizeOf23
 v22 := Try.zeroValue23 }
open Go.ChangeShapes Go.WideShapes Go.ChangeAt Go.RowKit Go.Shelf
def encPt (x : Pt) : List Value := [.int .i64 x.1, .int .i64 x.2]
theorem enc_cells {w : World} {b off : Nat} {L : List Pt} (h : PtsAt w b off L) : ∀ j, j < L.length → ∀ i v, (encPt L[j]!)[i]? = some v → w.cell? ⟨b, off + j * 2 + i, none⟩ = some v := by
 intro j hj i v hi
 obtain ⟨p, hp⟩ : ∃ p, L[j]? = some p := ⟨_, List.getElem?_eq_getElem hj⟩
 have e : L[j]! = p := by rw [List.getElem!_eq_getElem?_getD, hp]; rfl
 rw [e] at hi
 have h1 := h j p hp
 match i, hi with
 | 0, hi => simp [encPt] at hi; rw [← hi]; exact h1.1
 | 1, hi => simp [encPt] at hi; rw [← hi]; exact h1.2
 | i + 2, hi => simp [encPt] at hi
theorem wrong_pred (w : World) : PredBelow Try.prog 60 #[] (fun x : Pt => .agg (encPt x).toArray) (fun x => !ptOk x) w := fun W x hb => by
 show Calls Try.prog 60 #[.agg #[.int .i64 x.1, .int .i64 x.2]] W _
 exact (wrong_ints x.1 x.2 W).mono fun e w' ⟨he, hw⟩ => ⟨he, hb.trans (hw.mono hb.size)⟩
theorem enters42 : ∀ args w, (callFunc 60 args).run Try.prog w = .ok (.enter 60 args) w := enters_of Try.func60 (by kernel_rfl) rfl
theorem any_not_all (L : List Pt) : (!(L.any fun x => !ptOk x)) = L.all ptOk := by
 induction L with
 | nil => rfl
 | cons x L ih => simp only [List.any_cons, List.all_cons, ← ih]; cases ptOk x <;> simp
set_option maxHeartbeats 1000000 in
theorem ptsP_any (b off cap : Nat) (L : List Pt) (w : World) (hn : L.length ≤ 4611686018427387904) (hb : b < w.heap.size) (hc : PtsAt w b off L) :
  Calls Try.prog 33 #[.slice (some ⟨b, off, none⟩) L.length cap] w fun e w' => e = .returned (.bool (L.all ptOk)) ∧ Below w.heap.size w w' := by
 have hcon := AnyQ.slices_ContainsFunc Try.l50 2 Try.isAgg30 Try.sizeOf30 encPt (fun _ => rfl) (fun x => !ptOk x) 60 #[] enters42 b off L.length cap L w (wrong_pred w) (Nat.le_refl _) (by omega) hb (enc_cells hc)
 change Calls Try.prog 50 _ _ _ at hcon
 rw [List.take_length] at hcon
 rw [← any_not_all]
 generalize L.any (fun x => !ptOk x) = t at hcon ⊢
 generalize L.length = N at hcon ⊢
 clear hc hb
 have HC := hide hcon
 clear hcon
 go_enter Try.func33, Try.ntmps33
 go_wp2_with fail
 refine (zu HC).mono ?_
 rintro e w' ⟨rfl, hb⟩
 have HB := hide hb
 clear hb
 go_wp2_with fail
 go_ret
 exact ⟨rfl, zu HB⟩
set_option maxHeartbeats 2000000 in
set_option maxRecDepth 100000 in
theorem fzP_any (b cap n : Nat) (L : List Pt) (a1 a2 c1 c2 : Int) (w : World) (hL : L.length = n) (hn : n ≤ 200) (hN : Near L) (ha : (a1, a2) ∈ L) (hc : (c1, c2) ∈ L) (hb : b < w.heap.size) (hI : IntsAt w b 0 (flat2 L)) :
  Calls Try.prog 22 #[.slice (some ⟨b, 0, none⟩) n cap, .agg #[.int .i64 a1, .int .i64 a2, .int .i64 c1, .int .i64 c2]] w fun e w' => e = .returned (zoV ⟨fi L (a1, a2), fi L (c1, c2), fi L (a1, a2), 0, max 1 (sqd (a1, a2) (c1, c2))⟩) ∧ Below w.heap.size w w' := by
 have ra := hN _ ha
 have rc := hN _ hc
 simp only at ra rc
 have oa := near_ok (hN _ ha)
 have oc := near_ok (hN _ hc)
 have HFA := hide (fi_fst ha)
 have HFC := hide (fi_fst hc)
 have HB0 := hide (ba (ba (Below.refl w.heap.size w) (.cells #[.int .i64 a1, .int .i64 a2, .int .i64 c1, .int .i64 c2] 54)) (.cells #[.int .i64 0, .int .i64 0, .int .i64 0, .int .i64 0, .int .i64 0] 26))
 have H3 := hide (cb_new1 w 54 [.int .i64 a1, .int .i64 a2, .int .i64 c1, .int .i64 c2] (.cells #[.int .i64 0, .int .i64 0, .int .i64 0, .int .i64 0, .int .i64 0] 26))
 have H4 : Hid (cb ((w.alloc (.cells #[.int .i64 a1, .int .i64 a2, .int .i64 c1, .int .i64 c2] 54)).alloc (.cells #[.int .i64 0, .int .i64 0, .int .i64 0, .int .i64 0, .int .i64 0] 26)) (w.heap.size + 1) 26 z5) := hide (cb_new2 w 26 z5 (.cells #[.int .i64 a1, .int .i64 a2, .int .i64 c1, .int .i64 c2] 54))
 have HL := hide hL
 have HI := hide hI
 clear hL hI ha hc hN
 go_enter Try.func22, Try.ntmps22
 go_wp2_with fail
 generalize (w.alloc (.cells #[.int .i64 a1, .int .i64 a2, .int .i64 c1, .int .i64 c2] 54)).alloc (.cells #[.int .i64 0, .int .i64 0, .int .i64 0, .int .i64 0, .int .i64 0] 26) = W0 at *
 have k0 := (zu H3).cell (m := 0) rfl
 have k1 := (zu H3).cell (m := 1) rfl
 have k2 := (zu H3).cell (m := 2) rfl
 have k3 := (zu H3).cell (m := 3) rfl
 try go_wp2_with fail
 refine (sub_bel c1 c2 a1 a2 W0 oc oa).mono ?_
 rintro e W1 ⟨rfl, hb1⟩
 have hA : Below W1.heap.size W1 (W1.alloc (.cells #[.int .i64 (c1 - a1), .int .i64 (c2 - a2)] 30)) := ba (Below.refl _ _) _
 have hbA := bc hb1 hA
 have H3b := hide ((zu H3).bel hbA)
 have H4b := hide ((zu H4).bel hbA)
 have H5 := hide (cb_new W1 30 [.int .i64 (c1 - a1), .int .i64 (c2 - a2)] W1.heap.size rfl)
 have HB1 := hide (bc (zu HB0) hbA)
 have HI1 := hide ((zu HI).below (zu HB1) hb)
 have hbl : b < (W1.alloc (.cells #[.int .i64 (c1 - a1), .int .i64 (c2 - a2)] 30)).heap.size := Nat.lt_of_lt_of_le hb (zu HB1).size
 clear hb1 hA hbA k0 k1 k2 k3 H3 H4 HB0 HI
 go_upto_region 2 with fail
 generalize W1.alloc (.cells #[.int .i64 (c1 - a1), .int .i64 (c2 - a2)] 30) = W2 at *
 generalize W1.heap.size = b5 at *
 have k0 := (zu H3b).cell (m := 0) rfl
 have k1 := (zu H3b).cell (m := 1) rfl
 go_wp2_with fail
 refine (idxP_any b cap n L a1 a2 _ W2 HL (by omega) hbl HI1 HFA).mono ?_
 rintro e W3 ⟨rfl, hb3⟩
 have H3x := hide ((zu H3b).bel hb3)
 have H4x := hide ((zu H4b).bel hb3)
 have H5x := hide ((zu H5).bel hb3)
 have HB4 := hide (bc (zu HB1) hb3)
 have HIx := hide ((zu HI1).below hb3 hbl)
 have hbx : b < W3.heap.size := Nat.lt_of_lt_of_le hbl hb3.size
 have hb4w : w.heap.size + 1 < W3.heap.size := (zu H4x).lt
 clear hb3 k0 k1 H3b H4b H5 HB1 HI1
 go_wp2_with fail
 refine Go.Code.wp_mono (Only.to (fun _ _ h => h)) (fz3 (ja := fi L (a1, a2)) (jb := fi L (c1, c2)) (dd := sqd (a1, a2) (c1, c2)) (c1 := c1) (c2 := c2) (w1 := c1 - a1) (w2 := c2 - a2) hb4w (hide ((zu H3x).cell (m := 2) rfl)) (hide ((zu H3x).cell (m := 3) rfl)) (hide ((zu H5x).cell (m := 0) rfl)) (hide ((zu H5x).cell (m := 1) rfl)) (hide (zu H4x).zero) (hide (zu H4x).frozen)
  (hide fun X hX => idxP_any b cap n L c1 c2 _ X HL (by omega) (Nat.lt_of_lt_of_le hbx hX.size) (hide ((zu HIx).below hX hbx)) HFC)
  (hide fun X hX => by rw [← sq_way a1 a2 c1 c2]; exact aloP_any _ _ _ _ X (by omega) (by omega)) (fun W9 hW9 => ?_))
 have V4 := hide ((((((zu H4x).bel hW9).set 0 (.int .i64 (fi L (a1, a2) : Int))).set 1 (.int .i64 (fi L (c1, c2) : Int))).set 2 (.int .i64 (fi L (a1, a2) : Int))).set 3 (.int .i64 0) |>.set 4 (.int .i64 (max 1 (sqd (a1, a2) (c1, c2)))))
 have HB9 := hide (bc (zu HB4) hW9)
 clear hW9
 have s0 := (zu V4).cell (m := 0) rfl
 have s1 := (zu V4).cell (m := 1) rfl
 have s2 := (zu V4).cell (m := 2) rfl
 have s3 := (zu V4).cell (m := 3) rfl
 have s4 := (zu V4).cell (m := 4) rfl
 go_wp2_with fail
 refine bodyPost_ret (v := .agg #[.int .i64 (fi L (a1, a2) : Int), .int .i64 (fi L (c1, c2) : Int), .int .i64 (fi L (a1, a2) : Int), .int .i64 0, .int .i64 (max 1 (sqd (a1, a2) (c1, c2)))]) (by simp [results, Try.results22, go_sem, s0, s1, s2, s3, s4]) rfl ⟨rfl, ?_⟩
 exact Below.setCell (Below.setCell (Below.setCell (Below.setCell (Below.setCell (zu HB9) (by simp) _) (by simp) _) (by simp) _) (by simp) _) (by simp) _
theorem nd_bd {x y : Int} (hx : 0 ≤ x ∧ x ≤ 102400000000) (hy : 0 ≤ y ∧ y ≤ 320000) : 0 ≤ x * y ∧ x * y ≤ 32768000000000000 := by
 have h1 : 0 ≤ x * y := Int.mul_nonneg (by omega) (by omega)
 have h2 := mulB (x := x) (y := y) (a := 102400000000) (b := 320000) (by omega) (by omega) (by omega) (by omega)
 omega
theorem cwP_any (x y : Zo) (w : World) (hx : ZoOk x) (hy : ZoOk y) :
  Calls Try.prog 26 #[zoV x, zoV y] w fun e w' => e = .returned (.int .i64 (cmpI (x.N * y.D) (y.N * x.D))) ∧ Below w.heap.size w w' := by
 have h1 := nd_bd hx.n hy.d
 have h2 := nd_bd hy.n hx.d
 obtain ⟨xA, xB, xC, xN, xD⟩ := x
 obtain ⟨yA, yB, yC, yN, yD⟩ := y
 simp only at h1 h2
 have w1 : IntKind.i64.wrap (xN * yD) = xN * yD := wr64 (by omega) (by omega)
 have w2 : IntKind.i64.wrap (yN * xD) = yN * xD := wr64 (by omega) (by omega)
 unfold zoV
 clear hx hy h1 h2
 go_enter Try.func26, Try.ntmps26
 go_wp2_with fail
 refine (compare_any _ _ _).mono ?_
 rintro e w' ⟨rfl, hq⟩
 rw [hq]
 clear hq
 go_wp2_with fail
 go_ret
 exact ⟨rfl, ba (ba (Below.refl _ _) _) _⟩
def flatZ (z : Nat → Zo) (n : Nat) : List Int := (List.range n).flatMap fun i => [(z i).A, (z i).B, (z i).C, (z i).N, (z i).D]
theorem flatZ_succ (z : Nat → Zo) (n : Nat) : flatZ z (n + 1) = flatZ z n ++ [(z n).A, (z n).B, (z n).C, (z n).N, (z n).D] := by simp [flatZ, List.range_succ]
theorem flatZ_len (z : Nat → Zo) : ∀ n, (flatZ z n).length = n * 5
 | 0 => rfl
 | n + 1 => by rw [flatZ_succ, List.length_append, flatZ_len z n]; simp; omega
theorem flatZ_at (z : Nat → Zo) : ∀ (n i : Nat), i < n → (flatZ z n)[i * 5]? = some (z i).A ∧ (flatZ z n)[i * 5 + 1]? = some (z i).B ∧ (flatZ z n)[i * 5 + 2]? = some (z i).C ∧ (flatZ z n)[i * 5 + 3]? = some (z i).N ∧ (flatZ z n)[i * 5 + 4]? = some (z i).D
 | 0, i, h => by omega
 | n + 1, i, h => by
  have hl := flatZ_len z n
  rw [flatZ_succ]
  by_cases e : i = n
  ·subst e
   refine ⟨?_, ?_, ?_, ?_, ?_⟩ <;> (rw [List.getElem?_append_right (by omega), hl]) <;> simp
  ·obtain ⟨h1, h2, h3, h4, h5⟩ := flatZ_at z n i (by omega)
   refine ⟨?_, ?_, ?_, ?_, ?_⟩ <;> (rw [List.getElem?_append_left (by omega)]; assumption)
theorem enters26 : ∀ args w, (callFunc 26 args).run Try.prog w = .ok (.enter 26 args) w := enters_of Try.func26 (by kernel_rfl) rfl
set_option maxHeartbeats 2000000 in
set_option maxRecDepth 100000 in
theorem mnP_any (g cap n : Nat) (z : Nat → Zo) (w : World) (hn1 : 1 ≤ n) (hn : n ≤ 400) (hz : ∀ i, i < n → ZoOk (z i)) (hg : g < w.heap.size) (hI : IntsAt w g 0 (flatZ z n)) :
  Calls Try.prog 25 #[.slice (some ⟨g, 0, none⟩) n cap, .func (.func 26) #[] #[]] w fun e w' => e = .returned (zoV (bst z (n - 1))) ∧ Below w.heap.size w w' := by
 have HB0 := hide (ba (Below.refl w.heap.size w) (.cells #[.int .i64 0, .int .i64 0, .int .i64 0, .int .i64 0, .int .i64 0] 26))
 have H4 : Hid (cb (w.alloc (.cells #[.int .i64 0, .int .i64 0, .int .i64 0, .int .i64 0, .int .i64 0] 26)) w.heap.size 26 z5) := hide (cb_new w 26 z5 _ rfl)
 have HI : Hid (IntsAt (w.alloc (.cells #[.int .i64 0, .int .i64 0, .int .i64 0, .int .i64 0, .int .i64 0] 26)) g 0 (flatZ z n)) := hide (hI.below (zu HB0) hg)
 have HAT := hide (fun i (h : i < n) => flatZ_at z n i h)
 have HBO := hide (fun k (h : k < n) => bst_ok (z := z) k (fun i hi => hz i (by omega)))
 have HZK := hide hz
 have d1 : decide ((n : Int) < 1) = false := decide_eq_false (by omega)
 have n1' : (0 : Int) < (n : Int) := by omega
 have n1'' : 0 < n := by omega
 clear hI hz
 obtain ⟨h0A, h0B, h0C, h0N, h0D⟩ := zu HAT 0 (by omega)
 have c0 := (zu HI) _ _ h0A
 have c1 := (zu HI) _ _ h0B
 have c2 := (zu HI) _ _ h0C
 have c3 := (zu HI) _ _ h0N
 have c4 := (zu HI) _ _ h0D
 simp only [Nat.zero_mul, Nat.zero_add] at c0 c1 c2 c3 c4
 clear h0A h0B h0C h0N h0D
 have HHZ : Hid (bst z 0 = z 0) := hide rfl
 go_enter Try.func25, Try.ntmps25
 go_wp2_with fail
 have hA : Below (w.alloc (.cells #[.int .i64 0, .int .i64 0, .int .i64 0, .int .i64 0, .int .i64 0] 26)).heap.size (w.alloc (.cells #[.int .i64 0, .int .i64 0, .int .i64 0, .int .i64 0, .int .i64 0] 26)) ((w.alloc (.cells #[.int .i64 0, .int .i64 0, .int .i64 0, .int .i64 0, .int .i64 0] 26)).alloc (.cells #[.int .i64 (z 0).A, .int .i64 (z 0).B, .int .i64 (z 0).C, .int .i64 (z 0).N, .int .i64 (z 0).D] 26)) := ba (Below.refl _ _) _
 have H5 := hide (cb_new (w.alloc (.cells #[.int .i64 0, .int .i64 0, .int .i64 0, .int .i64 0, .int .i64 0] 26)) 26 [.int .i64 (z 0).A, .int .i64 (z 0).B, .int .i64 (z 0).C, .int .i64 (z 0).N, .int .i64 (z 0).D] (w.heap.size + 1) (by simp))
 have H4b := hide ((zu H4).bel hA)
 have HB1 := hide (bc (zu HB0) hA)
 have HI1 := hide ((zu HI).below hA (Nat.lt_of_lt_of_le hg (zu HB0).size))
 have hgl : g < ((w.alloc (.cells #[.int .i64 0, .int .i64 0, .int .i64 0, .int .i64 0, .int .i64 0] 26)).alloc (.cells #[.int .i64 (z 0).A, .int .i64 (z 0).B, .int .i64 (z 0).C, .int .i64 (z 0).N, .int .i64 (z 0).D] 26)).heap.size := Nat.lt_of_lt_of_le hg (zu HB1).size
 have hgw : g < w.heap.size := hg
 clear hA c0 c1 c2 c3 c4 HB0 H4 HI
 go_upto_region 4 with fail
 generalize (w.alloc (.cells #[.int .i64 0, .int .i64 0, .int .i64 0, .int .i64 0, .int .i64 0] 26)).alloc (.cells #[.int .i64 (z 0).A, .int .i64 (z 0).B, .int .i64 (z 0).C, .int .i64 (z 0).N, .int .i64 (z 0).D] 26) = W0 at *
 go_wp2_with fail
 go_loopw [6] (fun zz X => ∃ i : Nat, zz = .int .i64 (i : Int) ∧ 1 ≤ i ∧ i ≤ n ∧ cb X (w.heap.size + 1) 26 [.int .i64 (bst z (i - 1)).A, .int .i64 (bst z (i - 1)).B, .int .i64 (bst z (i - 1)).C, .int .i64 (bst z (i - 1)).N, .int .i64 (bst z (i - 1)).D] ∧ Below (w.heap.size + 1) W0 X) (fun zz _ => n - (intOf zz).toNat)
 case atStart => exact ⟨1, rfl, Nat.le_refl _, hn1, zu H5, Below.refl _ _⟩
 case round =>
  obtain ⟨i, rfl, hi1, hi2, hv5, hw⟩ := hrel
  have HV5 := hide hv5
  have HW := hide hw
  by_cases h : i < n
  ·have i1 : (i : Int) < (n : Int) := by omega
   have i0 : (0 : Int) ≤ (i : Int) := Int.natCast_nonneg _
   have iz : decide ((i : Int) < (n : Int)) = true := decide_eq_true i1
   obtain ⟨hA', hB', hC', hN', hD'⟩ := zu HAT i h
   have hii := (zu HI1).below hw (by omega : g < w.heap.size + 1)
   have x0' := hii _ _ hA'
   have x1' := hii _ _ hB'
   have x2' := hii _ _ hC'
   have x3' := hii _ _ hN'
   have x4' := hii _ _ hD'
   simp only [Nat.zero_add] at x0' x1' x2' x3' x4'
   have HCW := hide (fun X => cwP_any (z i) (bst z (i - 1)) X (zu HZK i h) (zu HBO (i - 1) (by omega)))
   have HBS : Hid (bst z (i + 1 - 1) = if (z i).N * (bst z (i - 1)).D < (bst z (i - 1)).N * (z i).D then z i else bst z (i - 1)) := hide (by
    obtain ⟨k, rfl⟩ : ∃ k, i = k + 1 := ⟨i - 1, by omega⟩
    simp only [Nat.add_sub_cancel]
    rfl)
   unfold zoV at HCW
   obtain ⟨xz, hxz⟩ : ∃ xz, z i = xz := ⟨_, rfl⟩
   obtain ⟨yz, hyz⟩ : ∃ yz, bst z (i - 1) = yz := ⟨_, rfl⟩
   rw [hxz] at x0' x1' x2' x3' x4' HCW HBS
   rw [hyz] at HV5 HCW HBS
   obtain ⟨x0, x1, x2, x3, x4⟩ := xz
   obtain ⟨y0, y1, y2, y3, y4⟩ := yz
   simp only at x0' x1' x2' x3' x4' HCW HBS HV5
   have e0 := (zu HV5).cell (m := 0) rfl
   have e1 := (zu HV5).cell (m := 1) rfl
   have e2 := (zu HV5).cell (m := 2) rfl
   have e3 := (zu HV5).cell (m := 3) rfl
   have e4 := (zu HV5).cell (m := 4) rfl
   have hent := enters26
   obtain ⟨b5, hb5⟩ : ∃ b5, w.heap.size + 1 = b5 := ⟨_, rfl⟩
   have hgb : g ≠ b5 := by omega
   have HB5E := hide hb5
   rw [hb5] at e0 e1 e2 e3 e4 HV5 HW ⊢
   clear hA' hB' hC' hN' hD' hii hxz hyz hv5 hw hb5
   by_cases hlt : x3 * y4 < y3 * x4
   ·have HCL : Hid (cmpI (x3 * y4) (y3 * x4) = -1) := hide (by unfold cmpI; rw [if_pos hlt])
    rw [zu HCL] at HCW
    have dl : decide ((-1 : Int) < 0) = true := by decide
    generalize x3 * y4 = M1 at *
    generalize y3 * x4 = M2 at *
    go_wp2_with fail
    go_region_held3 (fun wx => wx.cell? ⟨g, i * 5, none⟩ = some (.int .i64 x0) ∧ wx.cell? ⟨g, i * 5 + 1, none⟩ = some (.int .i64 x1) ∧ wx.cell? ⟨g, i * 5 + 2, none⟩ = some (.int .i64 x2) ∧ wx.cell? ⟨g, i * 5 + 3, none⟩ = some (.int .i64 x3) ∧ wx.cell? ⟨g, i * 5 + 4, none⟩ = some (.int .i64 x4) ∧ wx.cell? ⟨b5, 0, none⟩ = some (.int .i64 y0) ∧ wx.cell? ⟨b5, 1, none⟩ = some (.int .i64 y1) ∧ wx.cell? ⟨b5, 2, none⟩ = some (.int .i64 y2) ∧ wx.cell? ⟨b5, 3, none⟩ = some (.int .i64 y3) ∧ wx.cell? ⟨b5, 4, none⟩ = some (.int .i64 y4))
     (simp (maxDischargeDepth := 12) [go_sem, le1, lt1, *])
     (first
     | (go_at_call 26; with_reducible refine (zu HCW _).mono ?_; rintro e w' ⟨rfl, hb'⟩; have HBx := hide (show Below wr.heap.size wr w' from bc (by repeat (first | exact Below.refl _ _ | refine Below.drew ?_)) hb'); have p0 := keep1 hb' (b := g) (o := i * 5) (v := .int .i64 x0) (by simp (maxDischargeDepth := 12) [go_sem, le1, lt1, *]); have p1 := keep1 hb' (b := g) (o := i * 5 + 1) (v := .int .i64 x1) (by simp (maxDischargeDepth := 12) [go_sem, le1, lt1, *]); have p2 := keep1 hb' (b := g) (o := i * 5 + 2) (v := .int .i64 x2) (by simp (maxDischargeDepth := 12) [go_sem, le1, lt1, *]); have p3 := keep1 hb' (b := g) (o := i * 5 + 3) (v := .int .i64 x3) (by simp (maxDischargeDepth := 12) [go_sem, le1, lt1, *]); have p4 := keep1 hb' (b := g) (o := i * 5 + 4) (v := .int .i64 x4) (by simp (maxDischargeDepth := 12) [go_sem, le1, lt1, *]); have p5 := keep1 hb' (b := b5) (o := 0) (v := .int .i64 y0) (by simp (maxDischargeDepth := 12) [go_sem, le1, lt1, *]); have p6 := keep1 hb' (b := b5) (o := 1) (v := .int .i64 y1) (by simp (maxDischargeDepth := 12) [go_sem, le1, lt1, *]); have p7 := keep1 hb' (b := b5) (o := 2) (v := .int .i64 y2) (by simp (maxDischargeDepth := 12) [go_sem, le1, lt1, *]); have p8 := keep1 hb' (b := b5) (o := 3) (v := .int .i64 y3) (by simp (maxDischargeDepth := 12) [go_sem, le1, lt1, *]); have p9 := keep1 hb' (b := b5) (o := 4) (v := .int .i64 y4) (by simp (maxDischargeDepth := 12) [go_sem, le1, lt1, *]); clear hb'))
    all_goals
     have HWx : Hid (Below b5 W0 w') := hide ((zu HW).trans ((zu HBx).mono (by have := (zu HV5).lt; omega)))
     have V5x := hide ((zu HV5).bel (zu HBx))
     have fz := (zu V5x).frozen
     go_wp2_with fail
     go_roundw
     case rel =>
      refine ⟨i + 1, by simp, by omega, h, ?_, ?_⟩
      ·rw [zu HBS, if_pos hlt]
       exact (((((zu V5x).set 0 _).set 1 _).set 2 _).set 3 _).set 4 _
      ·exact Below.setCell (Below.setCell (Below.setCell (Below.setCell (Below.setCell (zu HWx) (Nat.le_refl _) _) (Nat.le_refl _) _) (Nat.le_refl _) _) (Nat.le_refl _) _) (Nat.le_refl _) _
     case measure => simp only [intOf]; omega
   ·have HCL : Hid (0 ≤ cmpI (x3 * y4) (y3 * x4)) := hide (by unfold cmpI; rw [if_neg hlt]; split <;> omega)
    have dl : decide (cmpI (x3 * y4) (y3 * x4) < 0) = false := decide_eq_false (by have := zu HCL; omega)
    generalize cmpI (x3 * y4) (y3 * x4) = CI at *
    go_wp2_with fail
    go_region_held3 (fun wx => wx.cell? ⟨g, i * 5, none⟩ = some (.int .i64 x0) ∧ wx.cell? ⟨g, i * 5 + 1, none⟩ = some (.int .i64 x1) ∧ wx.cell? ⟨g, i * 5 + 2, none⟩ = some (.int .i64 x2) ∧ wx.cell? ⟨g, i * 5 + 3, none⟩ = some (.int .i64 x3) ∧ wx.cell? ⟨g, i * 5 + 4, none⟩ = some (.int .i64 x4) ∧ wx.cell? ⟨b5, 0, none⟩ = some (.int .i64 y0) ∧ wx.cell? ⟨b5, 1, none⟩ = some (.int .i64 y1) ∧ wx.cell? ⟨b5, 2, none⟩ = some (.int .i64 y2) ∧ wx.cell? ⟨b5, 3, none⟩ = some (.int .i64 y3) ∧ wx.cell? ⟨b5, 4, none⟩ = some (.int .i64 y4))
     (simp (maxDischargeDepth := 12) [go_sem, le1, lt1, *])
     (first
     | (go_at_call 26; with_reducible refine (zu HCW _).mono ?_; rintro e w' ⟨rfl, hb'⟩; have HBx := hide (show Below wr.heap.size wr w' from bc (by repeat (first | exact Below.refl _ _ | refine Below.drew ?_)) hb'); have p0 := keep1 hb' (b := g) (o := i * 5) (v := .int .i64 x0) (by simp (maxDischargeDepth := 12) [go_sem, le1, lt1, *]); have p1 := keep1 hb' (b := g) (o := i * 5 + 1) (v := .int .i64 x1) (by simp (maxDischargeDepth := 12) [go_sem, le1, lt1, *]); have p2 := keep1 hb' (b := g) (o := i * 5 + 2) (v := .int .i64 x2) (by simp (maxDischargeDepth := 12) [go_sem, le1, lt1, *]); have p3 := keep1 hb' (b := g) (o := i * 5 + 3) (v := .int .i64 x3) (by simp (maxDischargeDepth := 12) [go_sem, le1, lt1, *]); have p4 := keep1 hb' (b := g) (o := i * 5 + 4) (v := .int .i64 x4) (by simp (maxDischargeDepth := 12) [go_sem, le1, lt1, *]); have p5 := keep1 hb' (b := b5) (o := 0) (v := .int .i64 y0) (by simp (maxDischargeDepth := 12) [go_sem, le1, lt1, *]); have p6 := keep1 hb' (b := b5) (o := 1) (v := .int .i64 y1) (by simp (maxDischargeDepth := 12) [go_sem, le1, lt1, *]); have p7 := keep1 hb' (b := b5) (o := 2) (v := .int .i64 y2) (by simp (maxDischargeDepth := 12) [go_sem, le1, lt1, *]); have p8 := keep1 hb' (b := b5) (o := 3) (v := .int .i64 y3) (by simp (maxDischargeDepth := 12) [go_sem, le1, lt1, *]); have p9 := keep1 hb' (b := b5) (o := 4) (v := .int .i64 y4) (by simp (maxDischargeDepth := 12) [go_sem, le1, lt1, *]); clear hb'))
    all_goals
     have HWx : Hid (Below b5 W0 w') := hide ((zu HW).trans ((zu HBx).mono (by have := (zu HV5).lt; omega)))
     have V5x := hide ((zu HV5).bel (zu HBx))
     go_wp2_with fail
     go_roundw
     case rel =>
      refine ⟨i + 1, by simp, by omega, h, ?_, ?_⟩
      ·rw [zu HBS, if_neg (by omega)]
       exact zu V5x
      ·exact zu HWx
     case measure => simp only [intOf]; omega
  ·have iz : decide ((i : Int) < (n : Int)) = false := decide_eq_false (by omega)
   obtain rfl : n = i := by omega
   have e0 := hv5.cell (m := 0) rfl
   have e1 := hv5.cell (m := 1) rfl
   have e2 := hv5.cell (m := 2) rfl
   have e3 := hv5.cell (m := 3) rfl
   have e4 := hv5.cell (m := 4) rfl
   have v4 : cb wr w.heap.size 26 z5 := (hw.block w.heap.size (by omega)).trans (zu H4b)
   have f4 := v4.frozen
   have m0 := v4.cell (m := 0) rfl
   have m1 := v4.cell (m := 1) rfl
   have m2 := v4.cell (m := 2) rfl
   have m3 := v4.cell (m := 3) rfl
   have m4 := v4.cell (m := 4) rfl
   have HV4 := hide v4
   have hne : w.heap.size + 1 ≠ w.heap.size := by omega
   have HBE := hide ((zu HB1).trans (hw.mono (Nat.le_succ _)))
   obtain ⟨bz, hbz⟩ : ∃ bz, bst z (n - 1) = bz := ⟨_, rfl⟩
   have HZV : Hid (zoV (bst z (n - 1)) = .agg #[.int .i64 bz.A, .int .i64 bz.B, .int .i64 bz.C, .int .i64 bz.N, .int .i64 bz.D]) := hide (by rw [hbz]; rfl)
   rw [hbz] at e0 e1 e2 e3 e4
   clear hbz
   clear hv5 hw v4
   go_wp2_with fail
   have V4 := hide (((((zu HV4).set 0 (.int .i64 bz.A)).set 1 (.int .i64 bz.B)).set 2 (.int .i64 bz.C)).set 3 (.int .i64 bz.N) |>.set 4 (.int .i64 bz.D))
   have s0 := (zu V4).cell (m := 0) rfl
   have s1 := (zu V4).cell (m := 1) rfl
   have s2 := (zu V4).cell (m := 2) rfl
   have s3 := (zu V4).cell (m := 3) rfl
   have s4 := (zu V4).cell (m := 4) rfl
   refine bodyPost_ret (v := .agg #[.int .i64 bz.A, .int .i64 bz.B, .int .i64 bz.C, .int .i64 bz.N, .int .i64 bz.D]) (by simp [results, Try.results25, go_sem, s0, s1, s2, s3, s4]) rfl ⟨by rw [zu HZV], ?_⟩
   exact Below.setCell (Below.setCell (Below.setCell (Below.setCell (Below.setCell (zu HBE) (Nat.le_refl _) _) (Nat.le_refl _) _) (Nat.le_refl _) _) (Nat.le_refl _) _) (Nat.le_refl _) _
end Go.Proofs.Ytdcecfgmfmpeeaa
