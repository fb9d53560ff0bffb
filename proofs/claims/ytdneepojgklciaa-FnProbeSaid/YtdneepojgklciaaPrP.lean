/-
  The program's way through points.
-/
import Derived.Test.YtdneepojgklciaaPointsP
import Derived.Test.YtdneepojgklciaaNumb
namespace Go.Proofs.Ytdneepojgklciaa
open Go.ChangeShapes Go.WideShapes Go.ChangeAt Go.RowKit
set_option linter.unusedVariables false
set_option linter.unusedSimpArgs false

def prOk (P : List Pt) (f : Pt) : Prop := P.length ≤ 200 ∧ P.all ptOk = true ∧ ptOk f = true
instance (P : List Pt) (f : Pt) : Decidable (prOk P f) := by unfold prOk; infer_instance
def prC (P : List Pt) (f : Pt) : Int := if 4096 < P.length then 2 else if prOk P f then 0 else 1
def prL (P : List Pt) (f : Pt) : List Nat := if prOk P f then (wayN P f P.length).1 else []
def prS (P : List Pt) (f : Pt) : Int := if prOk P f then (wayN P f P.length).2.1 else 0
/-- a row of its own, just as long -/
def Way (w : World) (B : Nat) (v : Value) (L : List Nat) : Prop := ∃ u g c, v = .slice u L.length c ∧ (L ≠ [] → u = some ⟨g, 0, none⟩ ∧ B ≤ g ∧ iblk w g 3 (nums L))
theorem way_nil (w : World) (B : Nat) : Way w B (.slice none 0 0) [] := ⟨none, 0, 0, rfl, fun h => absurd rfl h⟩
theorem nums_range (n : Nat) : nums (List.range n) = marks 0 n := by simp [nums, marks]
theorem iblk_box (w : World) (x y : Int) : iblk (w.alloc (.cells #[.int .i64 x, .int .i64 y] 26)) w.heap.size 26 [x, y] := iblk_new w 26 [x, y]
theorem int_size3 : (Try.prog.info? 3).map (·.size) = some 1 := by kernel_rfl
theorem copy_left {ops : Array Oper} {o : Oper} {a : Act} {w : World} {K : Act → World → Prop} {Q : Exit → Act → World → Prop} {E : Prop} (hgd : o.guard = none)
    (ho : o.op = .call { callee := .builtin .copy, args := #[.tmp 52, .tmp 55], argTypes := #[28, 28] }) (D i j : Nat) (dp sp : Option Addr) (dc sc : Nat) (hd : a.eval (.tmp 52) = .slice dp j dc) (hs : a.eval (.tmp 55) = .slice sp j sc)
    (hdp : 0 < j → dp = some ⟨D, i + 1, none⟩) (hsp : 0 < j → sp = some ⟨D, i, none⟩) (cur cs : List Value) (hg : w.heap[D]? = some (.cells cur.toArray 3 (0, 0))) (hcl : cs.length = j) (hsrc : ∀ k v, cs[k]? = some v → w.cell? ⟨D, i + k, none⟩ = some v)
    (hfit : i + 1 + cs.length ≤ cur.length) (h1 : ∀ v ∈ cs, v.oneCell' = true)
    (h : ∀ w', Hid (w'.heap[D]? = some (.cells (splice cur (i + 1) cs).toArray 3 (0, 0))) → Below D w w' → K (a.put o.dst (goInt cs.length)) w') :
    if Region.wanted o (yielded ops a.tmps) = true then Oper.wp Try.prog o a w K Q else E :=
  step_copy_splice hgd (.tmp 52) (.tmp 55) 28 28 ho 3 Try.underlying28 int_size3 dp sp j dc j sc hd hs D (i + 1) cur 3 hg cs (by rw [hcl]; exact (Nat.min_self j).symm)
    (fun h0 => ⟨hdp (by omega), ⟨D, i, none⟩, hsp (by omega), fun k v hk => by
      have : (⟨D, i, none⟩ : Addr).add k = ⟨D, i + k, none⟩ := by unfold Addr.add; split <;> simp_all
      rw [this]; exact hsrc k v hk⟩) hfit h1 D w (Below.refl _ _) (Nat.le_refl _) h
theorem splice_nums (A Lf : List Nat) (i j : Nat) : splice ((nums (A ++ Lf)).map (Value.int .i64)) (i + 1) ((nums (Lf.take j)).map (Value.int .i64)) = (nums (splice (A ++ Lf) (i + 1) (Lf.take j))).map (Value.int .i64) := by
  unfold splice nums
  simp [List.map_take, List.map_drop]
set_option maxHeartbeats 2000000 in
set_option maxRecDepth 100000 in
theorem prP_good (b cap : Nat) (P : List Pt) (f : Pt) (n : Nat) (w : World) (hPn : P.length = n) (hn : n ≤ 200) (ho : P.all ptOk = true) (hf : ptOk f = true) (hb : b < w.heap.size) (hc : PtsAt w b 0 P) :
    Calls Try.prog 8 #[.slice (some ⟨b, 0, none⟩) n cap, .agg #[.int .i64 f.1, .int .i64 f.2]] w fun e w' => (∃ v, e = .returned (.tuple #[v, .int .i64 (wayN P f n).2.1, .int .i64 0]) ∧ Way w' w.heap.size v (wayN P f n).1) ∧ Below w.heap.size w w' := by
  have HPN := hide hPn
  have HC := hide hc
  have HPA : Hid (∀ q ∈ P, Rpt q) := hide (fun q hq => ok_rpt (List.all_eq_true.1 ho q hq))
  have HFR := hide (ok_rpt hf)
  have HW := hide (fun k (hk : k ≤ n) => way_ok (f := f) (unhide HPA) (unhide HFR) k (by rw [hPn]; exact hk))
  have HP := hide (fun W (h1 : Below w.heap.size w W) => ptsP_any b 0 cap P W (by omega) (Nat.lt_of_lt_of_le hb h1.size) (hc.below h1))
  rw [ho, hPn] at HP
  have HWR := hide (fun W => wrong_ints f.1 f.2 W)
  rw [show ((f.1, f.2) : Pt) = f from rfl, hf] at HWR
  have HB := hide hb
  have HNB := hide (fun W => numb_any n W hn)
  obtain ⟨f1, f2⟩ := f
  simp only at HWR
  have n0 : (0 : Int) ≤ (n : Int) := Int.natCast_nonneg _
  have d0 : decide ((4096 : Int) < (n : Int)) = false := decide_eq_false (by omega)
  have d1 : decide ((200 : Int) < (n : Int)) = false := decide_eq_false (by omega)
  have HBX := hide (iblk_box w f1 f2)
  have HBB := hide (ba (Below.refl w.heap.size w) (.cells #[.int .i64 f1, .int .i64 f2] 26))
  clear hPn hc ho hf hb
  go_enter Try.func8, Try.ntmps8
  go_wp2_with fail
  refine (unhide HP _ (unhide HBB)).mono ?_
  rintro e W1 ⟨rfl, hb1⟩
  have hx1 := (unhide HBX).bel hb1
  have c0 := hx1.cell (m := 0) (x := f1) rfl
  have c1 := hx1.cell (m := 1) (x := f2) rfl
  have HX1 := hide hx1
  have HB1 := hide (bc (unhide HBB) hb1)
  clear hb1 hx1
  go_wp2_with fail
  refine (unhide HWR _).mono ?_
  rintro e W2 ⟨rfl, hb2⟩
  have HX2 := hide ((unhide HX1).bel hb2)
  have HB2 := hide (bc (unhide HB1) hb2)
  clear hb2 c0 c1
  go_wp2_with fail
  refine (unhide HNB _).mono ?_
  rintro e W3 ⟨⟨D, rfl, hD, hk⟩, hb3⟩
  have HX3 := hide ((unhide HX2).bel hb3)
  have HB3 := hide (bc (unhide HB2) hb3)
  have HK3 := hide hk
  have HD : Hid (w.heap.size < D) := hide (Nat.lt_of_lt_of_le (unhide HX2).lt hD)
  clear hb3 hk hD
  go_wp2_with fail
  obtain ⟨R, hR⟩ : ∃ R, w.heap.size = R := ⟨_, rfl⟩
  rw [hR] at HX3 HB3 HD ⊢
  have HR := hide hR
  have nRD : R ≠ D := Nat.ne_of_lt (unhide HD)
  have gRD : R ≤ D := Nat.le_of_lt (unhide HD)
  clear hR HX1 HX2 HB1 HB2 HBX HBB
  go_loopw [8, 35] (fun z y W => ∃ i : Nat, y = .int .i64 (i : Int) ∧ z = .int .i64 (wayN P (f1, f2) i).2.1 ∧ i ≤ n ∧ iblk W D 3 (nums ((wayN P (f1, f2) i).1 ++ lft n (wayN P (f1, f2) i).1)) ∧ iblk W R 26 [(wayN P (f1, f2) i).2.2.1, (wayN P (f1, f2) i).2.2.2] ∧ Below R w W) (fun z y _ => n - (intOf y).toNat)
  case atStart =>
    refine ⟨0, rfl, rfl, Nat.zero_le _, ?_, unhide HX3, unhide HB3⟩
    have := unhide HK3
    rw [← nums_range] at this
    simpa [wayN, lft_nil] using this
  case round =>
    obtain ⟨i, rfl, rfl, hi, hd, hx, hw⟩ := hrel
    have hok := (unhide HW) i hi
    have HNX : Hid (wayN P (f1, f2) (i + 1) = stepW P (wayN P (f1, f2) i)) := hide rfl
    have HEN : Hid (i = n → wayN P (f1, f2) n = wayN P (f1, f2) i) := hide (fun e => by rw [e])
    generalize wayN P (f1, f2) i = s at *
    obtain ⟨A, S, g1, g2⟩ := s
    simp only at hd hx
    have HDD := hide hd
    have HXX := hide hx
    have HWW := hide hw
    have HOK := hide hok
    have s0 := hok.sum0
    have s1 := hok.sum1
    simp only at s0 s1
    clear hd hx hw HX3 HB3 HK3 hok
    by_cases h : i < n
    · have i1 : decide ((i : Int) < (n : Int)) = true := decide_eq_true (by omega)
      have i0 : (0 : Int) ≤ (i : Int) := Int.natCast_nonneg _
      have i2 : (i : Int) < (n : Int) := by omega
      obtain ⟨bb, hbest, hmem, hstep, hok⟩ := way_step (unhide HPA) (by rw [unhide HPN]; exact h) (unhide HOK)
      rw [unhide HPN] at hbest hmem
      simp only at hbest hmem hstep
      have hAl := (unhide HOK).len
      have hLl := (unhide HOK).left
      rw [unhide HPN] at hLl
      simp only at hAl hLl
      have hnd := lft_nodup n A
      have hLm : ∀ k ∈ lft n A, k < n := fun k hk => (lft_mem.1 hk).1
      have HRP := hide ((unhide HOK).pt)
      have HLS := hide (lft_snoc n A bb)
      generalize lft n A = Lf at *
      have HAL := hide hAl
      have HLL := hide hLl
      have HND := hide hnd
      have HLM := hide hLm
      have HNEAR := hide (fun W (hc : PtsAt W b 0 P) (hl : IntsAt W D i (nums Lf)) => near_any b 0 cap D i (n - i) (n - i) P Lf (g1, g2) n W (unhide HPN) (unhide HPA) (unhide HRP) hLm hLl (by omega) (by omega) hn hc hl)
      have x0 := (unhide HXX).cell (m := 0) rfl
      have x1 := (unhide HXX).cell (m := 1) rfl
      have HBEST := hide hbest
      have HMEM := hide hmem
      have HSTEP := hide hstep
      have HOK' := hide hok
      have m1 : n - i ≤ n := by omega
      have m0 : 0 < n - i := by omega
      clear hbest hmem hstep hok hAl hLl hnd hLm
      go_wp2_with fail
      have hcN : PtsAt wr b 0 P := by
        have := unhide HC
        exact this.bel (unhide HWW) (by have := unhide HB; have := unhide HR; omega)
      have hlN : IntsAt wr D i (nums Lf) := by
        intro k x hk
        have h1 := (unhide HDD).cell (m := i + k) (x := x)
        apply h1
        have h2 : nums (A ++ Lf) = nums A ++ nums Lf := by simp [nums]
        rw [h2, List.getElem?_append_right (by simp [nums, unhide HAL])]
        simpa [nums, unhide HAL] using hk
      refine (unhide HNEAR _ hcN hlN).mono ?_
      rintro e W4 ⟨⟨j, b2, rfl, hj, hb2⟩, hb4⟩
      obtain rfl : b2 = bb := by have := hb2.symm.trans (unhide HBEST); simpa using this
      have hD4 := (unhide HDD).bel hb4
      have hX4 := (unhide HXX).bel hb4
      have HC4 := hide (hcN.below hb4)
      have j0 : (0 : Int) ≤ (j : Int) := Int.natCast_nonneg _
      have jm : j < n - i := by have h1 := (List.getElem?_eq_some_iff.1 hj).1; have h2 := unhide HLL; omega
      have k0 : W4.cell? ⟨D, i + j, none⟩ = some (.int .i64 (b2 : Int)) := by
        have := hlN j _ (nums_at hj)
        exact keep1 hb4 this
      have HB4 := hide (bxn (unhide HWW) x0 hb4)
      have HJ := hide hj
      have x2 := hX4.cell (m := 0) rfl
      have x3 := hX4.cell (m := 1) rfl
      have HX4 := hide hX4
      have HD4 := hide hD4
      clear hcN hlN hb4 hD4 hX4 hb2 hj x0 x1 HNEAR
      generalize hm : n - i = m at *
      have j2 : (j : Int) < (m : Int) := by omega
      have j3 : (j : Int) + 1 ≤ (m : Int) := by omega
      have j4 : j + 1 ≤ m := by omega
      have j5 : j ≤ m := by omega
      have HM := hide hm
      clear hm
      have jw : IntKind.i64.wrap ((j : Int) + 1) = (j : Int) + 1 := Go.IntWalk.i64_in _ ⟨by omega, by omega⟩
      have ja : (0 : Int) ≤ (j : Int) + 1 := by omega
      have jx : max ((j : Int) + 1) 0 = (j : Int) + 1 := by omega
      have jy : (1 : Int) ≤ (j : Int) + 1 := by omega
      have jt : ((j : Int) + 1).toNat = j + 1 := by omega
      obtain ⟨cur, hcur⟩ : ∃ cur : List Value, cur = (nums (A ++ Lf)).map (Value.int .i64) := ⟨_, rfl⟩
      obtain ⟨cs, hcs⟩ : ∃ cs : List Value, cs = (nums (Lf.take j)).map (Value.int .i64) := ⟨_, rfl⟩
      have HCUR := hide hcur
      have HCS := hide hcs
      have hcl : cs.length = j := by rw [hcs]; simp [nums]; have := (List.getElem?_eq_some_iff.1 (unhide HJ)).1; omega
      have HCL := hide hcl
      have HG : Hid (W4.heap[D]? = some (.cells cur.toArray 3 (0, 0))) := hide (by rw [hcur]; exact unhide HD4)
      clear hcur hcs hcl
      go_wp2_with fail
      have HDP : Hid (0 < j → (if m = 1 then some (⟨D, i, none⟩ : Addr) else some ⟨D, i + 1, none⟩) = some ⟨D, i + 1, none⟩) := hide (fun h0 => if_neg (by omega))
      have HSP : Hid (0 < j → some (⟨D, i, none⟩ : Addr) = some ⟨D, i, none⟩) := hide (fun h0 => rfl)
      have HSRC : Hid (∀ k v, cs[k]? = some v → W4.drew.cell? ⟨D, i + k, none⟩ = some v) := hide (by
        intro k v hk
        rw [unhide HCS] at hk
        have hkj : k < j := by
          have := (List.getElem?_eq_some_iff.1 hk).1
          simp [nums] at this
          omega
        have hkl : k < Lf.length := by have := (List.getElem?_eq_some_iff.1 (unhide HJ)).1; omega
        have e1 : (nums (Lf.take j))[k]? = some (Lf[k] : Int) := nums_at (by rw [List.getElem?_take, if_pos hkj, List.getElem?_eq_getElem hkl])
        have e2 : v = .int .i64 (Lf[k] : Int) := by
          rw [List.getElem?_map, e1] at hk
          simpa using hk.symm
        rw [e2]
        have h1 := (unhide HD4).cell (m := i + k) (x := (Lf[k] : Int)) (by
          rw [← unhide HAL]
          have h2 : nums (A ++ Lf) = nums A ++ nums Lf := by simp [nums]
          rw [h2, List.getElem?_append_right (by simp [nums])]
          have h3 : A.length + k - (nums A).length = k := by simp [nums]
          rw [h3]
          exact nums_at (List.getElem?_eq_getElem hkl))
        exact h1)
      have HFIT : Hid (i + 1 + cs.length ≤ cur.length) := hide (by
        rw [unhide HCL, unhide HCUR]
        simp [nums, unhide HAL, unhide HLL]
        have := unhide HM
        omega)
      have HONE : Hid (∀ v ∈ cs, v.oneCell' = true) := hide (by
        rw [unhide HCS]
        intro u hu
        obtain ⟨x, _, rfl⟩ := List.mem_map.1 hu
        rfl)
      go_region_law (refine copy_left rfl rfl D i j (if m = 1 then some (⟨D, i, none⟩ : Addr) else some ⟨D, i + 1, none⟩) (some ⟨D, i, none⟩) (m - 1) m (by simp [go_sem]) (by simp [go_sem]) (unhide HDP) (unhide HSP) cur cs (unhide HG) (unhide HCL) (unhide HSRC) (unhide HFIT) (unhide HONE) ?_; intro w5 hg5 hb5)
      generalize (if m = 1 then some (⟨D, i, none⟩ : Addr) else some ⟨D, i + 1, none⟩) = dpx
      replace hb5 : Below D W4 w5 := ((Below.refl D W4).drew).trans hb5
      have hk5 : iblk w5 D 3 (nums (splice (A ++ Lf) (i + 1) (Lf.take j))) := by
        have := hg5.out
        rw [unhide HCUR, unhide HCS, splice_nums] at this
        exact this
      have hX5 : iblk w5 R 26 [g1, g2] := (unhide HX4).below hb5 (unhide HD)
      have hC5 : PtsAt w5 b 0 P := by
        have h1 := unhide HC4
        exact h1.bel hb5 (by have h1 := unhide HB; have h2 := unhide HR; have h3 := unhide HD; omega)
      have hB5 : Below R w w5 := (unhide HB4).trans (Below.mono hb5 gRD)
      have hrow := way_row A Lf i j b2 (unhide HAL) (unhide HJ) (unhide HND)
      have hjl := (List.getElem?_eq_some_iff.1 (unhide HJ)).1
      have hln : (splice (A ++ Lf) (i + 1) (Lf.take j)).length = (A ++ Lf).length := length_splice _ _ _ (by simp; have := unhide HAL; omega)
      obtain ⟨y, hy⟩ : ∃ y, (splice (A ++ Lf) (i + 1) (Lf.take j))[i]? = some y := ⟨_, List.getElem?_eq_getElem (by rw [hln]; simp; have := unhide HAL; omega)⟩
      have y0 := hk5.cell (m := i) (nums_at hy)
      have fz : ∀ o, w5.frozen? ⟨D, o, none⟩ = false := hk5.frozen
      have HK6 : Hid (iblk (w5.setCell ⟨D, i, none⟩ (.int .i64 (b2 : Int))) D 3 (nums (A ++ [b2] ++ Lf.erase b2))) := hide (by
        have := hk5.set i (b2 : Int)
        rw [← hrow]
        have e : nums ((splice (A ++ Lf) (i + 1) (Lf.take j)).set i b2) = (nums (splice (A ++ Lf) (i + 1) (Lf.take j))).set i (b2 : Int) := by simp [nums, List.map_set]
        rw [e]
        exact this)
      have HX6 : Hid (iblk (w5.setCell ⟨D, i, none⟩ (.int .i64 (b2 : Int))) R 26 [g1, g2]) := hide ((Below.heap_setCell _ _ _ _ nRD).trans hX5)
      have nbD : b ≠ D := by have h1 := unhide HB; have h2 := unhide HR; have h3 := unhide HD; omega
      have HC6 : Hid (PtsAt (w5.setCell ⟨D, i, none⟩ (.int .i64 (b2 : Int))) b 0 P) := hide (fun k q hk =>
        ⟨(World.cell?_of_block (w := w5) (a := ⟨b, _, none⟩) (Below.heap_setCell _ _ _ _ nbD)).trans (hC5 k q hk).1, (World.cell?_of_block (w := w5) (a := ⟨b, _, none⟩) (Below.heap_setCell _ _ _ _ nbD)).trans (hC5 k q hk).2⟩)
      have HB6 : Hid (Below R w (w5.setCell ⟨D, i, none⟩ (.int .i64 (b2 : Int)))) := hide (Below.setCell hB5 gRD _)
      clear hk5 hX5 hC5 hB5 hrow hjl hln hy hg5 hb5 HDP HSP HSRC HFIT HONE HG HD4 HX4 HC4 HB4 HCUR HCS HCL k0 x2 x3
      go_wp2_with fail
      generalize w5.setCell ⟨D, i, none⟩ (.int .i64 (b2 : Int)) = w6 at *
      have bn := (unhide HLM) b2 (List.mem_of_getElem? (unhide HJ))
      have bb0 : (0 : Int) ≤ (b2 : Int) := Int.natCast_nonneg _
      have bb2 : (b2 : Int) < (n : Int) := by omega
      obtain ⟨⟨q1, q2⟩, hq⟩ : ∃ q, P[b2]? = some q := ⟨_, List.getElem?_eq_getElem (by have := unhide HPN; omega)⟩
      have RQ := hide ((unhide HPA) _ (List.mem_of_getElem? hq))
      have GQ := hide (gd_at (g1, g2) hq)
      have HQ := hide hq
      obtain ⟨k2, k3⟩ := (unhide HC6) b2 _ hq
      simp only [Nat.zero_add] at k2 k3
      have x2 := (unhide HX6).cell (m := 0) rfl
      have x3 := (unhide HX6).cell (m := 1) rfl
      have sb := stp_le (unhide HRP) (unhide RQ)
      obtain ⟨sb0, sb1⟩ := sb
      skip
      clear hq y0 fz
      go_region_held3 (fun wx => wx.cell? ⟨R, 0, none⟩ = some (.int .i64 g1) ∧ wx.cell? ⟨R, 1, none⟩ = some (.int .i64 g2) ∧ wx.cell? ⟨b, b2 * 2, none⟩ = some (.int .i64 q1) ∧ wx.cell? ⟨b, b2 * 2 + 1, none⟩ = some (.int .i64 q2))
        (simp (maxDischargeDepth := 12) [go_sem, le1, lt1, *])
        (first
        | (go_at_call 31; refine (steps_ints _ _ _ _ _ ?_ ?_).mono ?_; exact unhide HRP; exact unhide RQ; rintro e w7 ⟨rfl, hb7⟩; have HB7 : Hid (Below w6.heap.size w6 w7) := hide (by first | exact hb7 | exact ((Below.refl _ _).drew).trans hb7); have z0 := keep1 (unhide HB7) x2; have z1 := keep1 (unhide HB7) x3; have z2 := keep1 (unhide HB7) k2; have z3 := keep1 (unhide HB7) k3; clear hb7))
      have hX7 := (unhide HX6).bel (unhide HB7)
      have HK7 := hide ((unhide HK6).bel (unhide HB7))
      have HBB7 := hide (bxn (unhide HB6) x2 (unhide HB7))
      have fz : ∀ o, w7.frozen? ⟨R, o, none⟩ = false := hX7.frozen
      have HX7 := hide hX7
      clear hX7 x2 x3 k2 k3
      go_wp2_with fail
      go_roundw
      case rel =>
        refine ⟨i + 1, by simp, ?_, h, ?_, ?_, ?_⟩
        · rw [unhide HNX, unhide HSTEP]
          show _ = Value.int .i64 (S + gd P (g1, g2) b2)
          rw [unhide GQ, Go.IntWalk.i64_in _ ⟨by omega, by omega⟩]
        · rw [unhide HNX, unhide HSTEP]
          show iblk _ D 3 (nums ((A ++ [b2]) ++ lft n (A ++ [b2])))
          rw [unhide HLS]
          exact (Below.heap_setCell _ _ _ _ (Ne.symm nRD)).trans ((Below.heap_setCell _ _ _ _ (Ne.symm nRD)).trans (unhide HK7))
        · rw [unhide HNX, unhide HSTEP]
          simp only [unhide HQ, Option.getD_some]
          exact ((unhide HX7).set 0 q1).set 1 q2
        · exact Below.setCell (Below.setCell (unhide HBB7) (Nat.le_refl _) _) (Nat.le_refl _) _
      case measure => simp only [intOf]; omega
    · have i1 : decide ((i : Int) < (n : Int)) = false := decide_eq_false (by omega)
      obtain rfl : i = n := by omega
      have HE := hide ((unhide HEN) rfl)
      have hA : lft i A = [] := by
        have := (unhide HOK).left
        rw [unhide HPN] at this
        simp only at this
        exact List.eq_nil_of_length_eq_zero (by omega)
      have hD5 := unhide HDD
      rw [hA, List.append_nil] at hD5
      have HD5 := hide hD5
      have HAL := hide ((unhide HOK).len)
      clear hD5 hA
      go_wp2_with fail
      refine bodyPost_ret (v := .tuple #[.slice (some ⟨D, 0, none⟩) i i, .int .i64 S, .int .i64 0]) (by simp [results, Try.results8, go_sem]) rfl ⟨⟨_, by rw [unhide HE], ⟨_, D, i, by rw [unhide HE, unhide HAL], fun _ => ⟨rfl, ?_, by rw [unhide HE]; exact unhide HD5⟩⟩⟩, ?_⟩
      · have := unhide HR; omega
      · rw [unhide HR]; exact unhide HWW
set_option maxHeartbeats 2000000 in
set_option maxRecDepth 100000 in
theorem prP_any (b cap : Nat) (P : List Pt) (f : Pt) (w : World) (hn : P.length ≤ 4611686018427387904) (hb : b < w.heap.size) (hc : PtsAt w b 0 P) :
    Calls Try.prog 8 #[.slice (some ⟨b, 0, none⟩) P.length cap, .agg #[.int .i64 f.1, .int .i64 f.2]] w fun e w' => (∃ v, e = .returned (.tuple #[v, .int .i64 (prS P f), .int .i64 (prC P f)]) ∧ Way w' w.heap.size v (prL P f)) ∧ Below w.heap.size w w' := by
  by_cases ho : prOk P f
  · have e1 : prS P f = (wayN P f P.length).2.1 := if_pos ho
    have e2 : prL P f = (wayN P f P.length).1 := if_pos ho
    have e3 : prC P f = 0 := by unfold prC; rw [if_neg (by have := ho.1; omega), if_pos ho]
    rw [e1, e2, e3]
    exact prP_good b cap P f P.length w rfl ho.1 ho.2.1 ho.2.2 hb hc
  · have e1 : prS P f = 0 := if_neg ho
    have e2 : prL P f = [] := if_neg ho
    have e3 : prC P f = if 4096 < P.length then 2 else 1 := by unfold prC; rw [if_neg ho]
    rw [e1, e2, e3]
    have HBB := hide (ba (Below.refl w.heap.size w) (.cells #[.int .i64 f.1, .int .i64 f.2] 26))
    have HBX := hide (iblk_box w f.1 f.2)
    have HP := hide (fun W (h1 : Below w.heap.size w W) => ptsP_any b 0 cap P W hn (Nat.lt_of_lt_of_le hb h1.size) (hc.below h1))
    have HWR := hide (fun W => wrong_ints f.1 f.2 W)
    have hff : ((f.1, f.2) : Pt) = f := rfl
    rw [hff] at HWR
    have HO : Hid (P.length ≤ 200 → P.all ptOk = true → ptOk f = true → False) := hide (fun h1 h2 h3 => ho ⟨h1, h2, h3⟩)
    obtain ⟨f1, f2⟩ := f
    simp only at HBB HBX HWR HO ⊢
    generalize P.all ptOk = pa at *
    generalize ptOk (f1, f2) = pf at *
    generalize P.length = n at *
    clear hc hb ho e1 e2 e3 hff
    have n0 : (0 : Int) ≤ (n : Int) := Int.natCast_nonneg _
    by_cases h1 : 4096 < n
    · rw [if_pos h1]
      have d0 : decide ((4096 : Int) < (n : Int)) = true := decide_eq_true (by omega)
      go_enter Try.func8, Try.ntmps8
      go_wp2_with fail
      exact bodyPost_ret (v := .tuple #[.slice none 0 0, .int .i64 0, .int .i64 2]) (by simp [results, Try.results8, go_sem]) rfl ⟨⟨_, rfl, way_nil _ _⟩, unhide HBB⟩
    · rw [if_neg h1]
      have d0 : decide ((4096 : Int) < (n : Int)) = false := decide_eq_false (by omega)
      by_cases h2 : 200 < n
      · have d1 : decide ((200 : Int) < (n : Int)) = true := decide_eq_true (by omega)
        go_enter Try.func8, Try.ntmps8
        go_wp2_with fail
        exact bodyPost_ret (v := .tuple #[.slice none 0 0, .int .i64 0, .int .i64 1]) (by simp [results, Try.results8, go_sem]) rfl ⟨⟨_, rfl, way_nil _ _⟩, unhide HBB⟩
      · have d1 : decide ((200 : Int) < (n : Int)) = false := decide_eq_false (by omega)
        cases pa with
        | false =>
          go_enter Try.func8, Try.ntmps8
          go_wp2_with fail
          refine (unhide HP _ (unhide HBB)).mono ?_
          rintro e W1 ⟨rfl, hb1⟩
          have HB1 := hide (bc (unhide HBB) hb1)
          clear hb1
          go_wp2_with fail
          exact bodyPost_ret (v := .tuple #[.slice none 0 0, .int .i64 0, .int .i64 1]) (by simp [results, Try.results8, go_sem]) rfl ⟨⟨_, rfl, way_nil _ _⟩, unhide HB1⟩
        | true =>
          obtain rfl : pf = false := by
            cases pf with
            | false => rfl
            | true => exact ((unhide HO) (by omega) rfl rfl).elim
          go_enter Try.func8, Try.ntmps8
          go_wp2_with fail
          refine (unhide HP _ (unhide HBB)).mono ?_
          rintro e W1 ⟨rfl, hb1⟩
          have hx1 := (unhide HBX).bel hb1
          have c0 := hx1.cell (m := 0) (x := f1) rfl
          have c1 := hx1.cell (m := 1) (x := f2) rfl
          have HB1 := hide (bc (unhide HBB) hb1)
          clear hb1 hx1
          go_wp2_with fail
          refine (unhide HWR _).mono ?_
          rintro e W2 ⟨rfl, hb2⟩
          have HB2 := hide (bc (unhide HB1) hb2)
          clear hb2 c0 c1
          go_wp2_with fail
          exact bodyPost_ret (v := .tuple #[.slice none 0 0, .int .i64 0, .int .i64 1]) (by simp [results, Try.results8, go_sem]) rfl ⟨⟨_, rfl, way_nil _ _⟩, unhide HB2⟩
end Go.Proofs.Ytdneepojgklciaa
