/-
  The program's corners of a strip.
-/
import Derived.Test.YtimkinpbimangaaBnR
import Derived.Test.YtimkinpbimangaaLeaves
import Derived.Test.YtimkinpbimangaaAppNew
namespace Go.Proofs.Ytimkinpbimangaa
open Go.ChangeShapes Go.WideShapes Go.ChangeAt Go.RowKit
set_option linter.unusedVariables false
set_option linter.unusedSimpArgs false

theorem small_mul {v : Pt} {b : Int} (hv : Uw v) (hb : -1 ≤ b ∧ b ≤ 1) : (-1 ≤ -b * v.2 ∧ -b * v.2 ≤ 1) ∧ -1 ≤ b * v.1 ∧ b * v.1 ≤ 1 := by
  rcases hv with rfl | rfl | rfl | rfl <;> simp <;> omega
set_option maxHeartbeats 1000000 in
theorem bent_any (v : Pt) (b : Int) (w : World) (hv : Uw v) (hb : -1 ≤ b ∧ b ≤ 1) :
    Calls Try.prog 58 #[ptv v, .int .i64 b] w fun e w' => e = .returned (ptv (trn v b)) ∧ Below w.heap.size w w' := by
  have sm := small_mul hv hb
  have vb := uw_bd hv
  unfold trn
  obtain ⟨x, y⟩ := v
  simp only at sm vb
  clear hv
  by_cases h0 : b = 0
  · subst h0
    go_enter Try.func58, Try.ntmps58
    go_wp2_with fail
    exact bodyPost_ret (v := .agg #[.int .i64 x, .int .i64 y]) (by simp [results, Try.results58, go_sem]) rfl ⟨rfl, ba (ba (Below.refl _ _) _) _⟩
  · rw [if_neg h0]
    have hz : (b == 0) = false := by simp [h0]
    have w0 : IntKind.i64.wrap (-b) = -b := wrap_i (by omega) (by omega)
    have w1 : IntKind.i64.wrap (-b * y) = -b * y := wrap_i (by omega) (by omega)
    have w2 : IntKind.i64.wrap (b * x) = b * x := wrap_i (by omega) (by omega)
    have w3 : wrap64 (-b * y) = -b * y := by unfold wrap64; omega
    have w4 : wrap64 (b * x) = b * x := by unfold wrap64; omega
    simp only
    clear sm
    go_enter Try.func58, Try.ntmps58
    go_wp2_with fail
    exact bodyPost_ret (v := .agg #[.int .i64 (-b * y), .int .i64 (b * x)]) (by simp [results, Try.results58, go_sem, w3, w4]) rfl ⟨rfl, ba (ba (Below.refl _ _) _) _⟩
set_option maxHeartbeats 1000000 in
theorem plus_any (a0 a1 b0 b1 : Int) (w : World) (ha : (-1000000 ≤ a0 ∧ a0 ≤ 1000000) ∧ -1000000 ≤ a1 ∧ a1 ≤ 1000000) (hb : (-1000000 ≤ b0 ∧ b0 ≤ 1000000) ∧ -1000000 ≤ b1 ∧ b1 ≤ 1000000) :
    Calls Try.prog 59 #[.agg #[.int .i64 a0, .int .i64 a1], .agg #[.int .i64 b0, .int .i64 b1]] w fun e w' => e = .returned (.agg #[.int .i64 (a0 + b0), .int .i64 (a1 + b1)]) ∧ Below w.heap.size w w' := by
  obtain ⟨⟨h1, h2⟩, h3, h4⟩ := ha
  obtain ⟨⟨k1, k2⟩, k3, k4⟩ := hb
  go_enter Try.func59, Try.ntmps59
  go_wp2_with fail
  exact bodyPost_ret (v := .agg #[.int .i64 (a0 + b0), .int .i64 (a1 + b1)]) (by simp [results, Try.results59, go_sem]) rfl ⟨rfl, ba (ba (ba (Below.refl _ _) _) _) _⟩
theorem pt_info : (Try.prog.info? 32).map (fun i => (i.zero, i.size, i.bytes)) = some (some (.agg #[.int .i64 0, .int .i64 0]), 2, 16) := by kernel_rfl
theorem row_vb {w : World} {B g t k n : Nat} {L : List Int} (h : vb w g t (L.map (Value.int .i64))) (hl : L.length = n * k) (hB : B ≤ g) (hn : n ≤ 100000) : Row w B t k (.slice (some ⟨g, 0, none⟩) n n) n L := by
  refine ⟨by simpa using hl, .inr ⟨g, n, _, rfl, hB, h, Nat.le_refl _, by unfold maxLen; omega, by simpa using hl, ?_⟩⟩
  rw [List.take_of_length_le (by simp [hl])]
theorem Row.ne {w : World} {B t k g' o : Nat} {v x : Value} {n : Nat} {L : List Int} (h : Row w B t k v n L) (hg : g' < B) : Row (w.setCell ⟨g', o, none⟩ x) B t k v n L := by
  refine ⟨h.1, ?_⟩
  rcases h.2 with h1 | ⟨g, cap, cur, hv, hB, hh, r⟩
  · exact .inl h1
  · exact .inr ⟨g, cap, cur, hv, hB, (Below.heap_setCell _ _ _ _ (show g ≠ g' by omega)).trans hh, r⟩
/-- what holds at the head of the loop over panels -/
structure Co (w W : World) (ps bs : List Int) (i : Nat) (v : Value) : Prop where
  bel : Below w.heap.size w W
  sz : w.heap.size + 2 < W.heap.size
  c : vb W w.heap.size 32 [.int .i64 (cn ps bs i).1, .int .i64 (cn ps bs i).2]
  y : vb W (w.heap.size + 1) 32 [.int .i64 (wy bs (i - 1)).1, .int .i64 (wy bs (i - 1)).2]
  r : Row W (w.heap.size + 2) 32 2 v (i + 1) (fl2 (cns ps bs (i + 1)))
set_option maxHeartbeats 4000000 in
set_option maxRecDepth 100000 in
theorem corP_any (u v : Option Addr) (p po q qo n m cu cv : Nat) (ps bs : List Int) (w : World) (hl : ps.length = n) (hm : bs.length = m) (hs : stp ps bs = true) (hu : Its w u p po ps) (hv : Its w v q qo bs) :
    Calls Try.prog 36 #[.slice u n cu, .slice v m cv] w fun e w' => (∃ r, e = .returned r ∧ Row w' w.heap.size 32 2 r (n + 1) (fl2 (cns ps bs (n + 1)))) ∧ Below w.heap.size w w' := by
  obtain ⟨⟨n1, n2⟩, nm, hp, hb⟩ := stp_parts hs
  rw [hl] at n1 n2 nm
  rw [hm] at nm
  have HN := hide nm
  have nm1 : m ≤ n := by omega
  have HP := hide hp
  have HBS := hide hb
  have HU := hide hu
  have HV := hide hv
  have HL := hide hl
  have HM := hide hm
  have n0 : (0 : Int) ≤ (n : Int) := Int.natCast_nonneg _
  obtain ⟨iP, hi1, hp0, hp1, hp2⟩ := info_parts pt_info
  clear hp hb hu hv hl hm hs nm
  go_enter Try.func36, Try.ntmps36
  go_wp2_with fail
  go_loopw [7, 16] (fun r s W => ∃ i : Nat, s = .int .i64 (i : Int) ∧ i ≤ n ∧ Co w W ps bs i r) (fun _ s _ => n - (intOf s).toNat)
  case atStart =>
    refine ⟨0, rfl, Nat.zero_le _, ⟨?_, by simp, ?_, ?_, ?_⟩⟩
    · exact ba (ba (ba (Below.refl _ _) _) _) _
    · exact ((vb_new w 32 [.int .i64 0, .int .i64 0] _ rfl).bel (ba (Below.refl _ _) _)).bel (ba (Below.refl _ _) _)
    · exact (vb_new (w.alloc (.cells #[.int .i64 0, .int .i64 0] 32)) 32 [.int .i64 1, .int .i64 0] _ (by simp)).bel (ba (Below.refl _ _) _)
    · exact row_vb (L := [0, 0]) (vb_new ((w.alloc (.cells #[.int .i64 0, .int .i64 0] 32)).alloc (.cells #[.int .i64 1, .int .i64 0] 32)) 32 [.int .i64 0, .int .i64 0] _ (by simp)) (by decide) (Nat.le_refl _) (by omega)
  case round =>
    obtain ⟨i, rfl, hi, hco⟩ := hrel
    by_cases h : i < n
    · have i1 : (i : Int) < (n : Int) := by omega
      have i0 : (0 : Int) ≤ (i : Int) := Int.natCast_nonneg _
      have iz : decide ((i : Int) < (n : Int)) = true := decide_eq_true i1
      obtain ⟨l, hx⟩ := get_some (unhide HL) h
      obtain ⟨rfl, pw, kl⟩ := ((unhide HU).bel hco.bel).at hx
      have lb := unhide HP l (List.mem_of_getElem? hx)
      have gl : ps.getD i 0 = l := by rw [List.getD_eq_getElem?_getD, hx]; rfl
      have uv := wy_uw (unhide HBS) i
      have cb := cn_bd (unhide HP) (unhide HBS) i
      have sb := step_bd uv (p := l) (by omega)
      have E1 : Hid ((cn ps bs (i + 1)).1 = (cn ps bs i).1 + (wy bs i).1 * l) := hide (by rw [← gl]; rfl)
      have E2 : Hid ((cn ps bs (i + 1)).2 = (cn ps bs i).2 + (wy bs i).2 * l) := hide (by rw [← gl]; rfl)
      have w1 : IntKind.i64.wrap ((wy bs i).1 * l) = (wy bs i).1 * l := wrap_i (by omega) (by omega)
      have w2 : IntKind.i64.wrap ((wy bs i).2 * l) = (wy bs i).2 * l := wrap_i (by omega) (by omega)
      have HC := hide hco.c
      have HY := hide hco.y
      have HR := hide hco.r
      have HB := hide hco.bel
      have sz := hco.sz
      have HX := hide hx
      clear hx hco gl pw
      by_cases hz : i = 0
      · have ey : wy bs (i - 1) = wy bs i := by rw [hz]
        rw [ey] at HY
        clear ey
        have tz : decide ((0 : Int) < (i : Int)) = false := decide_eq_false (by omega)
        have tz1 : ¬ (0 < i) := by omega
        have tz2 : ¬ ((0 : Int) < (i : Int)) := by omega
        generalize hv0 : (wy bs i).1 = v0 at HY E1 w1 sb
        generalize hv1 : (wy bs i).2 = v1 at HY E2 w2 sb
        generalize hx0 : (cn ps bs i).1 = x0 at HC E1 cb
        generalize hy0 : (cn ps bs i).2 = y0 at HC E2 cb
        obtain ⟨p0, hp0'⟩ : ∃ p0, v0 * l = p0 := ⟨_, rfl⟩
        obtain ⟨p1, hp1'⟩ : ∃ p1, v1 * l = p1 := ⟨_, rfl⟩
        rw [hp0'] at E1 sb
        rw [hp1'] at E2 sb
        replace w1 : IntKind.i64.wrap (v0 * l) = p0 := by rw [w1, hp0']
        replace w2 : IntKind.i64.wrap (v1 * l) = p1 := by rw [w2, hp1']
        generalize hZ : fl2 (cns ps bs (i + 1)) = Z at HR
        have E3 : Hid ((wy bs i).1 = v0) := hide hv0
        have E4 : Hid ((wy bs i).2 = v1) := hide hv1
        have EZ : Hid (fl2 (cns ps bs (i + 1)) = Z) := hide hZ
        obtain ⟨⟨cb1, cb2⟩, cb3, cb4⟩ := cb
        obtain ⟨⟨sb1, sb2⟩, sb3, sb4⟩ := sb
        have HPP := hide hp0'
        have HPP2 := hide hp1'
        have HZ0 := hide hz
        clear uv hx0 hy0 hv0 hv1 hp0' hp1' hZ HX hz lb
        have k0 := (unhide HC).cell (m := 0) rfl
        have k1 := (unhide HC).cell (m := 1) rfl
        have k2 := (unhide HY).cell (m := 0) rfl
        have k3 := (unhide HY).cell (m := 1) rfl
        have kf := (unhide HC).frozen
        go_wp2_with fail
        refine (plus_any x0 y0 p0 p1 _ (by omega) (by omega)).mono ?_
        rintro e W2 ⟨rfl, hb2⟩
        have HC2 := hide ((unhide HC).bel hb2)
        have HY2 := hide ((unhide HY).bel hb2)
        have HR2 := hide ((unhide HR).below hb2)
        have HB2 := hide (bc (unhide HB) hb2)
        have sz2 := Nat.lt_of_lt_of_le sz hb2.size
        have k0 := (unhide HC2).cell (m := 0) rfl
        have k1 := (unhide HC2).cell (m := 1) rfl
        have kf := (unhide HC2).frozen
        clear hb2 k2 k3 HC HY HR HB
        go_wp2_with (at_builtin; refine unhide ?_)
        refine hide ?_
        have HC3 : Hid (vb ((W2.setCell ⟨w.heap.size, 0, none⟩ (.int .i64 (x0 + p0))).setCell ⟨w.heap.size, 1, none⟩ (.int .i64 (y0 + p1))) w.heap.size 32 [.int .i64 (x0 + p0), .int .i64 (y0 + p1)]) := hide (((unhide HC2).set 0 _).set 1 _)
        have HY3 : Hid (vb ((W2.setCell ⟨w.heap.size, 0, none⟩ (.int .i64 (x0 + p0))).setCell ⟨w.heap.size, 1, none⟩ (.int .i64 (y0 + p1))) (w.heap.size + 1) 32 [.int .i64 v0, .int .i64 v1]) := hide (((unhide HY2).ne (by omega)).ne (by omega))
        have HR3 : Hid (Row ((W2.setCell ⟨w.heap.size, 0, none⟩ (.int .i64 (x0 + p0))).setCell ⟨w.heap.size, 1, none⟩ (.int .i64 (y0 + p1))) (w.heap.size + 2) 32 2 u7 (i + 1) Z) := hide (((unhide HR2).ne (by omega)).ne (by omega))
        have HB3 : Hid (Below w.heap.size w ((W2.setCell ⟨w.heap.size, 0, none⟩ (.int .i64 (x0 + p0))).setCell ⟨w.heap.size, 1, none⟩ (.int .i64 (y0 + p1)))) := hide (((unhide HB2).setCell (by simp) _).setCell (by simp) _)
        have sz3 : w.heap.size + 2 < ((W2.setCell ⟨w.heap.size, 0, none⟩ (.int .i64 (x0 + p0))).setCell ⟨w.heap.size, 1, none⟩ (.int .i64 (y0 + p1))).heap.size := by simpa using sz2
        generalize hX : ((W2.setCell ⟨w.heap.size, 0, none⟩ (.int .i64 (x0 + p0))).setCell ⟨w.heap.size, 1, none⟩ (.int .i64 (y0 + p1))) = X at *
        have HXS : Hid (W2.heap.size = X.heap.size) := hide (by rw [← hX]; simp)
        clear hX HC2 HY2 HR2 HB2 sz2 k0 k1 kf
        refine wpList_append_own _ rfl _ _ 26 rfl (w.heap.size + 2) 32 iP _ 2 16 Try.underlying26 hi1 hp0 hp1 hp2 rfl (by decide) _ _ _ rfl ((unhide HR3).below (ba (Below.refl _ _) _)) _ 1 1 ([x0 + p0, y0 + p1].map (Value.int .i64)) rfl rfl (by exact news_cells _ _ (unhide HXS)) ints_one (by unfold maxLen; omega) (by omega) (by first | omega | (simp; omega)) ?_
        intro v' wz hown' hgrow _
        obtain ⟨R4, B4⟩ := own_more (wr := X) (news := [x0 + p0, y0 + p1]) (by repeat (first | exact Below.refl _ _ | refine Below.alloc ?_ (by first | omega | (simp; omega)) _ | refine Below.drew ?_)) (by simp; omega) (unhide HR3) hown' hgrow
        have R5 := hide R4
        have B5 := hide B4
        clear hown' hgrow R4 B4
        go_wp2_with fail
        go_roundw
        case rel =>
          refine ⟨i + 1, by simp, h, ⟨(unhide HB3).trans ((unhide B5).mono (by omega)), Nat.lt_of_lt_of_le sz3 (unhide B5).size, ?_, ?_, ?_⟩⟩
          · rw [unhide E1, unhide E2]; exact (unhide HC3).below (unhide B5) (by omega)
          · rw [show i + 1 - 1 = i from rfl, unhide E3, unhide E4]; exact (unhide HY3).below (unhide B5) (by omega)
          · rw [fl2_cns_succ, unhide E1, unhide E2, unhide EZ]; exact unhide R5
        case measure => simp only [intOf]; omega
      · obtain ⟨j, rfl⟩ : ∃ j, i = j + 1 := ⟨i - 1, by omega⟩
        have tz : decide ((0 : Int) < ((j + 1 : Nat) : Int)) = true := decide_eq_true (by omega)
        have tz1 : 0 < j + 1 := by omega
        have tz2 : (0 : Int) < ((j + 1 : Nat) : Int) := by omega
        have hjm : j < m := by have := unhide HN; omega
        obtain ⟨b, hbx⟩ := get_some (unhide HM) hjm
        obtain ⟨rfl, pw, kb⟩ := ((unhide HV).bel (unhide HB)).at hbx
        have bb := unhide HBS b (List.mem_of_getElem? hbx)
        have gb : bs.getD j 0 = b := by rw [List.getD_eq_getElem?_getD, hbx]; rfl
        have ety : wy bs (j + 1) = trn (wy bs j) b := by rw [← gb]; rfl
        have HBE := hide (fun W => bent_any (wy bs j) b W (wy_uw (unhide HBS) j) bb)
        rw [← ety] at HBE
        simp only [ptv] at HBE
        have wj : IntKind.i64.wrap (((j + 1 : Nat) : Int) - 1) = (j : Int) := by rw [wrap_i (by omega) (by omega)]; omega
        have o0 := (unhide HY).cell (m := 0) rfl
        have o1 := (unhide HY).cell (m := 1) rfl
        have of := (unhide HY).frozen
        have hyl := (unhide HY).lt
        rw [show j + 1 - 1 = j from rfl] at o0 o1
        generalize (wy bs j) = wj0 at HBE o0 o1
        obtain ⟨s0, s1⟩ := wj0
        simp only at HBE o0 o1
        generalize hv0 : (wy bs (j + 1)).1 = v0 at E1 w1 sb HBE
        generalize hv1 : (wy bs (j + 1)).2 = v1 at E2 w2 sb HBE
        generalize hx0 : (cn ps bs (j + 1)).1 = x0 at HC E1 cb
        generalize hy0 : (cn ps bs (j + 1)).2 = y0 at HC E2 cb
        obtain ⟨p0, hp0'⟩ : ∃ p0, v0 * l = p0 := ⟨_, rfl⟩
        obtain ⟨p1, hp1'⟩ : ∃ p1, v1 * l = p1 := ⟨_, rfl⟩
        rw [hp0'] at E1 sb
        rw [hp1'] at E2 sb
        replace w1 : IntKind.i64.wrap (v0 * l) = p0 := by rw [w1, hp0']
        replace w2 : IntKind.i64.wrap (v1 * l) = p1 := by rw [w2, hp1']
        generalize hZ : fl2 (cns ps bs (j + 1 + 1)) = Z at HR
        have E3 : Hid ((wy bs (j + 1)).1 = v0) := hide hv0
        have E4 : Hid ((wy bs (j + 1)).2 = v1) := hide hv1
        have EZ : Hid (fl2 (cns ps bs (j + 1 + 1)) = Z) := hide hZ
        obtain ⟨⟨cb1, cb2⟩, cb3, cb4⟩ := cb
        obtain ⟨⟨sb1, sb2⟩, sb3, sb4⟩ := sb
        have HPP := hide hp0'
        have HPP2 := hide hp1'
        clear uv hx0 hy0 hv0 hv1 hp0' hp1' hZ HX hz lb gb ety hbx pw bb
        generalize hii : j + 1 = i at *
        have HII := hide hii
        clear hii
        go_wp2_with fail
        refine Go.Code.wp_mono (Only.to (fun _ _ h => h)) (co7 (x := b) (a0 := v0) (a1 := v1) (j := j) (hide o0) (hide o1) (hide kb) hyl (hide o0) (hide o1) (hide of) (hide wj) (hide hjm) (hide fun X _ => unhide HBE X) ?_)
        intro W1 W9 h9 hW1
        have HC := hide (((unhide HC).bel hW1).ne (g' := w.heap.size + 1) (o := 0) (x := .int .i64 v0) (by omega) |>.ne (g' := w.heap.size + 1) (o := 1) (x := .int .i64 v1) (by omega))
        have HY := hide ((((unhide HY).bel hW1).set 0 (.int .i64 v0)).set 1 (.int .i64 v1))
        have HR := hide ((((unhide HR).below hW1).ne (g' := w.heap.size + 1) (o := 0) (x := .int .i64 v0) (by omega)).ne (g' := w.heap.size + 1) (o := 1) (x := .int .i64 v1) (by omega))
        have HB := hide (((bc (unhide HB) hW1).setCell (p := ⟨w.heap.size + 1, 0, none⟩) (by simp) (.int .i64 v0)).setCell (p := ⟨w.heap.size + 1, 1, none⟩) (by simp) (.int .i64 v1))
        have sz : w.heap.size + 2 < ((W1.setCell ⟨w.heap.size + 1, 0, none⟩ (.int .i64 v0)).setCell ⟨w.heap.size + 1, 1, none⟩ (.int .i64 v1)).heap.size := by have := Nat.lt_of_lt_of_le sz hW1.size; simpa using this
        rw [← h9] at HC HY HR HB sz
        clear h9 hW1 o0 o1 of hyl kb wj HBE kl
        have k0 := (unhide HC).cell (m := 0) rfl
        have k1 := (unhide HC).cell (m := 1) rfl
        have k2 := (unhide HY).cell (m := 0) rfl
        have k3 := (unhide HY).cell (m := 1) rfl
        have kf := (unhide HC).frozen
        go_wp2_with fail
        refine (plus_any x0 y0 p0 p1 _ (by omega) (by omega)).mono ?_
        rintro e W2 ⟨rfl, hb2⟩
        have HC2 := hide ((unhide HC).bel hb2)
        have HY2 := hide ((unhide HY).bel hb2)
        have HR2 := hide ((unhide HR).below hb2)
        have HB2 := hide (bc (unhide HB) hb2)
        have sz2 := Nat.lt_of_lt_of_le sz hb2.size
        have k0 := (unhide HC2).cell (m := 0) rfl
        have k1 := (unhide HC2).cell (m := 1) rfl
        have kf := (unhide HC2).frozen
        clear hb2 k2 k3 HC HY HR HB
        go_wp2_with (at_builtin; refine unhide ?_)
        refine hide ?_
        have HC3 : Hid (vb ((W2.setCell ⟨w.heap.size, 0, none⟩ (.int .i64 (x0 + p0))).setCell ⟨w.heap.size, 1, none⟩ (.int .i64 (y0 + p1))) w.heap.size 32 [.int .i64 (x0 + p0), .int .i64 (y0 + p1)]) := hide (((unhide HC2).set 0 _).set 1 _)
        have HY3 : Hid (vb ((W2.setCell ⟨w.heap.size, 0, none⟩ (.int .i64 (x0 + p0))).setCell ⟨w.heap.size, 1, none⟩ (.int .i64 (y0 + p1))) (w.heap.size + 1) 32 [.int .i64 v0, .int .i64 v1]) := hide (((unhide HY2).ne (by omega)).ne (by omega))
        have HR3 : Hid (Row ((W2.setCell ⟨w.heap.size, 0, none⟩ (.int .i64 (x0 + p0))).setCell ⟨w.heap.size, 1, none⟩ (.int .i64 (y0 + p1))) (w.heap.size + 2) 32 2 u7 (i + 1) Z) := hide (((unhide HR2).ne (by omega)).ne (by omega))
        have HB3 : Hid (Below w.heap.size w ((W2.setCell ⟨w.heap.size, 0, none⟩ (.int .i64 (x0 + p0))).setCell ⟨w.heap.size, 1, none⟩ (.int .i64 (y0 + p1)))) := hide (((unhide HB2).setCell (by simp) _).setCell (by simp) _)
        have sz3 : w.heap.size + 2 < ((W2.setCell ⟨w.heap.size, 0, none⟩ (.int .i64 (x0 + p0))).setCell ⟨w.heap.size, 1, none⟩ (.int .i64 (y0 + p1))).heap.size := by simpa using sz2
        generalize hX : ((W2.setCell ⟨w.heap.size, 0, none⟩ (.int .i64 (x0 + p0))).setCell ⟨w.heap.size, 1, none⟩ (.int .i64 (y0 + p1))) = X at *
        have HXS : Hid (W2.heap.size = X.heap.size) := hide (by rw [← hX]; simp)
        clear hX HC2 HY2 HR2 HB2 sz2 k0 k1 kf
        refine wpList_append_own _ rfl _ _ 26 rfl (w.heap.size + 2) 32 iP _ 2 16 Try.underlying26 hi1 hp0 hp1 hp2 rfl (by decide) _ _ _ rfl ((unhide HR3).below (ba (Below.refl _ _) _)) _ 1 1 ([x0 + p0, y0 + p1].map (Value.int .i64)) rfl rfl (by exact news_cells _ _ (unhide HXS)) ints_one (by unfold maxLen; omega) (by omega) (by first | omega | (simp; omega)) ?_
        intro v' wz hown' hgrow _
        obtain ⟨R4, B4⟩ := own_more (wr := X) (news := [x0 + p0, y0 + p1]) (by repeat (first | exact Below.refl _ _ | refine Below.alloc ?_ (by first | omega | (simp; omega)) _ | refine Below.drew ?_)) (by simp; omega) (unhide HR3) hown' hgrow
        have R5 := hide R4
        have B5 := hide B4
        clear hown' hgrow R4 B4
        go_wp2_with fail
        go_roundw
        case rel =>
          refine ⟨i + 1, by simp, h, ⟨(unhide HB3).trans ((unhide B5).mono (by omega)), Nat.lt_of_lt_of_le sz3 (unhide B5).size, ?_, ?_, ?_⟩⟩
          · rw [unhide E1, unhide E2]; exact (unhide HC3).below (unhide B5) (by omega)
          · rw [show i + 1 - 1 = i from rfl, unhide E3, unhide E4]; exact (unhide HY3).below (unhide B5) (by omega)
          · rw [fl2_cns_succ, unhide E1, unhide E2, unhide EZ]; exact unhide R5
        case measure => simp only [intOf]; omega
    · have iz : decide ((i : Int) < (n : Int)) = false := decide_eq_false (by omega)
      obtain rfl : n = i := by omega
      have HCO := hide hco
      clear hco
      go_wp2_with fail
      go_ret
      exact ⟨⟨_, rfl, (unhide HCO).r.mono (by omega)⟩, (unhide HCO).bel⟩
end Go.Proofs.Ytimkinpbimangaa
