/-
  One plate more on the strip: the program's with.
-/
import Derived.Test.YtoidhlackoigkaaWi23
import Derived.Test.YtoidhlackoigkaaNsLl
import Derived.Test.YtoidhlackoigkaaNsPl
namespace Go.Proofs.Ytoidhlackoigkaa
open Go.ChangeShapes Go.WideShapes Go.ChangeAt Go.RowKit
set_option linter.unusedVariables false
set_option linter.unusedSimpArgs false

def twd (t : Bool) (a b : Int) : Int := if t = true then b else a
theorem tif_any (a b : Int) (t : Bool) (w : World) : Calls Try.prog 40 #[.agg #[.int .i64 a, .int .i64 b], .bool t] w fun e w' => e = .returned (.agg #[.int .i64 (twd t a b), .int .i64 (twd t b a)]) ∧ Below w.heap.size w w' := by
  cases t with
  | true =>
    go_enter Try.func40, Try.ntmps40
    go_wp2
    refine bodyPost_ret (v := .agg #[.int .i64 b, .int .i64 a]) (by simp [results, Try.results40, go_sem]) rfl ?_
    exact ⟨rfl, ba (ba (Below.refl _ _) _) _⟩
  | false =>
    go_enter Try.func40, Try.ntmps40
    go_wp2
    refine bodyPost_ret (v := .agg #[.int .i64 a, .int .i64 b]) (by simp [results, Try.results40, go_sem]) rfl ?_
    exact ⟨rfl, ba (ba (Below.refl _ _) _) _⟩
/-- while levels are tried -/
structure Wl (w W : World) (Wd : Int) (u : Option Addr) (n c : Nat) (g9 g2 : Nat) (Lv : List Int) (q : Ld) : Prop where
  bel : Below w.heap.size w W
  ne : vb W w.heap.size 47 [.int .i64 Wd, .slice u n c]
  re : vb W (w.heap.size + 2) 47 [.int .i64 0, .slice none 0 0]
  nx : vb W g9 78 (ldC q)
  lv : IntsAt W g2 0 Lv
  lt : g2 < W.heap.size
  nl : g9 ≠ g2
  g9 : w.heap.size + 2 < g9
theorem Wl.on {w W W2 : World} {Wd : Int} {u : Option Addr} {n c g9 g2 : Nat} {Lv : List Int} {q : Ld} (h : Wl w W Wd u n c g9 g2 Lv q) (hb : Below W.heap.size W W2) : Wl w W2 Wd u n c g9 g2 Lv q :=
  ⟨bc h.bel hb, h.ne.bel hb, h.re.bel hb, h.nx.bel hb, h.lv.below hb h.lt, Nat.lt_of_lt_of_le h.lt hb.size, h.nl, h.g9⟩
theorem ints_ne2 {W : World} {g gb : Nat} {L : List Int} (hs : IntsAt W g 0 L) (ng : gb ≠ g) (o : Nat) (x : Value) : IntsAt (W.setCell ⟨gb, o, none⟩ x) g 0 L := hs.blk (Below.heap_setCell _ _ _ _ (fun e => ng e.symm))
theorem Wl.set2 {w W : World} {Wd : Int} {u : Option Addr} {n c g9 g2 : Nat} {Lv : List Int} {m : Int} {t : Bool} {a : Rc} (h : Wl w W Wd u n c g9 g2 Lv ⟨m, t, a⟩) (x y : Int) :
    Wl w ((W.setCell ⟨g9, 1, none⟩ (.int .i64 x)).setCell ⟨g9, 2, none⟩ (.int .i64 y)) Wd u n c g9 g2 Lv ⟨m, t, ⟨x, y, a.w, a.h⟩⟩ := by
  have h9 := h.g9
  exact ⟨(h.bel.setCell (by show w.heap.size ≤ g9; omega) _).setCell (by show w.heap.size ≤ g9; omega) _, (h.ne.ne (by omega)).ne (by omega), (h.re.ne (by omega)).ne (by omega), (h.nx.set 1 _).set 2 _, ints_ne2 (ints_ne2 h.lv h.nl _ _) h.nl _ _, by simpa using h.lt, h.nl, h.g9⟩
theorem Wl.set6 {w W : World} {Wd : Int} {u : Option Addr} {n c g9 g2 : Nat} {Lv : List Int} {q : Ld} (h : Wl w W Wd u n c g9 g2 Lv q) (p : Ld) :
    Wl w ((((((W.setCell ⟨g9, 0, none⟩ (.int .i64 p.n)).setCell ⟨g9, 1, none⟩ (.int .i64 p.a.x)).setCell ⟨g9, 2, none⟩ (.int .i64 p.a.y)).setCell ⟨g9, 3, none⟩ (.bool p.t)).setCell ⟨g9, 4, none⟩ (.int .i64 p.a.w)).setCell ⟨g9, 5, none⟩ (.int .i64 p.a.h)) Wd u n c g9 g2 Lv p := by
  have h9 := h.g9
  have hl : w.heap.size ≤ g9 := by omega
  refine ⟨(((((h.bel.setCell hl _).setCell hl _).setCell hl _).setCell hl _).setCell hl _).setCell hl _, (((((h.ne.ne (by omega)).ne (by omega)).ne (by omega)).ne (by omega)).ne (by omega)).ne (by omega), (((((h.re.ne (by omega)).ne (by omega)).ne (by omega)).ne (by omega)).ne (by omega)).ne (by omega), ?_, ints_ne2 (ints_ne2 (ints_ne2 (ints_ne2 (ints_ne2 (ints_ne2 h.lv h.nl _ _) h.nl _ _) h.nl _ _) h.nl _ _) h.nl _ _) h.nl _ _, by simpa using h.lt, h.nl, h.g9⟩
  exact (((((h.nx.set 0 _).set 1 _).set 2 _).set 3 _).set 4 _).set 5 _
theorem vb6 {W : World} {g t : Nat} {q : Ld} (h : vb W g t (ldC q)) : W.cell? ⟨g, 0, none⟩ = some (.int .i64 q.n) ∧ W.cell? ⟨g, 1, none⟩ = some (.int .i64 q.a.x) ∧ W.cell? ⟨g, 2, none⟩ = some (.int .i64 q.a.y) ∧ W.cell? ⟨g, 3, none⟩ = some (.bool q.t) ∧ W.cell? ⟨g, 4, none⟩ = some (.int .i64 q.a.w) ∧ W.cell? ⟨g, 5, none⟩ = some (.int .i64 q.a.h) :=
  ⟨h.cell rfl, h.cell rfl, h.cell rfl, h.cell rfl, h.cell rfl, h.cell rfl⟩
/-- no laid plate is higher than all of them together -/
def Hgt (L : List Ld) : Prop := ∀ l ∈ L, l.a.y + l.a.h ≤ 1000 * (L.length : Int)
theorem hgt_tops {L : List Ld} (h : Hgt L) : ∀ y ∈ tops (rcs L), y ≤ 1000 * (L.length : Int) := by
  intro y hy
  rcases List.mem_cons.1 hy with rfl | hy
  · omega
  · obtain ⟨b, hb, rfl⟩ := List.mem_map.1 hy
    obtain ⟨l, hl, rfl⟩ := List.mem_map.1 hb
    exact h l hl
/-- what is known of the levels that were tried -/
def Tried (R : List Rc) (Wd a b : Int) (Lv : List Int) (i : Nat) : Prop := ∀ j y, j < i → Lv[j]? = some y → ∃ x, Psh R a b y x ∧ Wd < x + a
theorem tried_low {R : List Rc} {Wd a b x y : Int} {Lv : List Int} {i : Nat} (hg : Good R) (hl : Lvl R Lv) (ht : Tried R Wd a b Lv i) (hy : Lv[i]? = some y) (hp : Psh R a b y x) (hW : x + a ≤ Wd) : Low Wd R a b x y := by
  refine low_of hg hp ((hl.1 y).1 (List.mem_of_getElem? hy)) hW ?_
  intro y' hy' hlt
  obtain ⟨j, hj⟩ := List.getElem?_of_mem ((hl.1 y').2 hy')
  refine ht j y' ?_ hj
  apply Decidable.byContradiction
  intro hji
  have hji' : i ≤ j := by omega
  have hjl := (List.getElem?_eq_some_iff.1 hj)
  have hil := (List.getElem?_eq_some_iff.1 hy)
  by_cases he : i = j
  · subst he; rw [hy] at hj; cases hj; omega
  · have := List.pairwise_iff_getElem.1 hl.2 i j hil.1 hjl.1 (by omega)
    rw [hil.2, hjl.2] at this
    omega
theorem tried_end {R : List Rc} {Wd a b : Int} {Lv : List Int} (hl : Lvl R Lv) (ht : Tried R Wd a b Lv Lv.length) (ha : a ≤ Wd) (hr : ∀ x ∈ rights R, 0 ≤ x) : False := by
  obtain ⟨y, hc⟩ := some_can (W := Wd) (R := R) (w := a) (h := b) ha
  have key : ∀ L : List Int, L ≠ [] → ∃ y ∈ L, ∀ t ∈ L, t ≤ y := by
    intro L
    induction L with
    | nil => intro h; exact absurd rfl h
    | cons a L ih =>
      intro _
      by_cases hL : L = []
      · subst hL; exact ⟨a, by simp, fun t ht => by simp at ht; omega⟩
      · obtain ⟨y, hy, hm⟩ := ih hL
        by_cases h2 : a ≤ y
        · exact ⟨y, by simp [hy], fun t ht => by rcases List.mem_cons.1 ht with rfl | ht; (exact h2); (exact hm t ht)⟩
        · exact ⟨a, by simp, fun t ht => by rcases List.mem_cons.1 ht with rfl | ht; (omega); (have := hm t ht; omega)⟩
  obtain ⟨ym, hym, hmax⟩ := key (tops R) (by simp [tops])
  obtain ⟨j, hj⟩ := List.getElem?_of_mem ((hl.1 ym).2 hym)
  obtain ⟨x, hp, hx⟩ := ht j ym ((List.getElem?_eq_some_iff.1 hj).1) hj
  have hx0 := hr x hp.rt
  by_cases h0 : x = 0
  · omega
  · have := hp.blk 0 (Int.le_refl _) (by omega)
    rw [high_free hmax] at this
    cases this
theorem good_nr {L : List Ld} (h : ∀ l ∈ L, Nr l.a) : Good (rcs L) := by
  intro b hb
  obtain ⟨l, hl, rfl⟩ := List.mem_map.1 hb
  have := h l hl
  unfold Nr at this
  omega
set_option maxHeartbeats 8000000 in
set_option maxRecDepth 100000 in
theorem wiP_any (Wd m pw ph : Int) (t : Bool) (u : Option Addr) (b po n c : Nat) (L : List Ld) (w : World) (hl : L.length = n) (hn : n ≤ 900) (hu : Lds w u b po L) (hs : ∀ l ∈ L, Nr l.a) (hh : Hgt L) (hc : n ≤ c) (hu0 : u = none → c = 0) (hu1 : n = 0 → u = none)
    (hW : 1 ≤ Wd ∧ Wd ≤ 1000) (hp : (1 ≤ pw ∧ pw ≤ 1000) ∧ 1 ≤ ph ∧ ph ≤ 1000) (ha : twd t pw ph ≤ Wd) :
    Calls Try.prog 23 #[.agg #[.int .i64 Wd, .slice u n c], .int .i64 m, .agg #[.int .i64 pw, .int .i64 ph], .bool t] w fun e w' => (∃ g cap x y, e = .returned (.agg #[.int .i64 Wd, .slice (some ⟨g, 0, none⟩) (n + 1) cap]) ∧ Low Wd (rcs L) (twd t pw ph) (twd t ph pw) x y ∧ NewL w w' g n cap (L ++ [⟨m, t, ⟨x, y, twd t pw ph, twd t ph pw⟩⟩])) ∧ Below w.heap.size w w' := by
  have hab : (1 ≤ twd t pw ph ∧ twd t pw ph ≤ 1000) ∧ 1 ≤ twd t ph pw ∧ twd t ph pw ≤ 1000 := by unfold twd; split <;> omega
  have HTI := hide (fun X => tif_any pw ph t X)
  generalize hA : twd t pw ph = a at *
  generalize hB : twd t ph pw = bb at *
  have HU := hide (fun X (hX : Below w.heap.size w X) => hu.bel hX)
  have HL := hide hl
  have HS := hide hs
  have HGD := hide (good_nr hs)
  have HT := hide (hgt_tops hh)
  have HLV := hide (fun X (hX : Below w.heap.size w X) => lvP_any Wd u b po n c L X hl (by omega) (hu.bel hX) hs)
  have HPU := hide (fun (q : Ld) X (hX : Below w.heap.size w X) hq hq0 => puP_any Wd u b po n c L q X hl (by omega) (hu.bel hX) hs hq hq0)
  unfold ldV at HPU
  have n0 : (0 : Int) ≤ (n : Int) := Int.natCast_nonneg _
  clear hu hs hh hl hA hB
  go_enter Try.func23, Try.ntmps23
  go_wp2_with fail
  refine (unhide HTI _).mono ?_
  rintro e W1 ⟨rfl, hb1⟩
  have v0 := (((vb_new w 47 [.int .i64 Wd, .slice u n c] w.heap.size rfl).bel (ba (Below.refl _ _) (.cells #[.int .i64 pw, .int .i64 ph] 31))).bel (ba (Below.refl _ _) (.cells #[.int .i64 0, .slice none 0 0] 47))).bel hb1
  have v2 := (vb_new ((w.alloc (.cells #[.int .i64 Wd, .slice u n c] 47)).alloc (.cells #[.int .i64 pw, .int .i64 ph] 31)) 47 [.int .i64 0, .slice none 0 0] (w.heap.size + 2) (by simp)).bel hb1
  have HB1 : Hid (Below w.heap.size w W1) := hide (bc (ba (ba (ba (Below.refl _ _) _) _) _) hb1)
  have sz1 : w.heap.size + 3 ≤ W1.heap.size := by simpa using hb1.size
  have k0 := v0.cell (m := 0) rfl
  have k1 := v0.cell (m := 1) rfl
  have kl := v0.lt
  have HV0 := hide v0
  have HV2 := hide v2
  clear hb1 v0 v2
  go_wp2_with fail
  have HX2 := hide (ba (unhide HB1) (.cells #[.int .i64 m, .int .i64 0, .int .i64 0, .bool t, .int .i64 a, .int .i64 bb] 78))
  have HN2 := hide (vb_new W1 78 (ldC ⟨m, t, ⟨0, 0, a, bb⟩⟩) W1.heap.size rfl)
  refine (unhide HLV _ (unhide HX2)).mono ?_
  rintro e W2 ⟨⟨g2, k, cap2, Lv, rfl, hlk, hiv, hgl, hge, hlvl, hkn⟩, hb2⟩
  have HP0 : Hid (Wl w W2 Wd u n c W1.heap.size g2 Lv ⟨m, t, ⟨0, 0, a, bb⟩⟩) := hide
    ⟨bc (unhide HX2) hb2, ((unhide HV0).bel (ba (Below.refl _ _) _)).bel hb2, ((unhide HV2).bel (ba (Below.refl _ _) _)).bel hb2, (unhide HN2).bel hb2, hiv, hgl, by simp at hge; omega, by omega⟩
  have HLK := hide hlk
  have HLVL := hide hlvl
  generalize hg9 : W1.heap.size = g9 at *
  clear hb2 hiv hgl hge hlk hlvl HX2 HN2 HV0 HV2 HB1 k0 k1 kl sz1 hg9 HLV HTI
  have k00 : (0 : Int) ≤ (k : Int) := Int.natCast_nonneg _
  go_wp2_with fail
  go_loopw [11, 22] (fun _ s W => ∃ (i : Nat) (x y : Int), s = .int .i64 (i : Int) ∧ i ≤ k ∧ Wl w W Wd u n c g9 g2 Lv ⟨m, t, ⟨x, y, a, bb⟩⟩ ∧ Tried (rcs L) Wd a bb Lv i) (fun _ s _ => k - (intOf s).toNat)
  case atStart => exact ⟨0, 0, 0, rfl, Nat.zero_le _, unhide HP0, fun j y hj => by omega⟩
  case round =>
    clear HP0
    obtain ⟨i, x, y, rfl, hi, hp, htr⟩ := hrel
    have HP := hide hp
    have HTR := hide htr
    by_cases h : i < k
    · have i1 : (i : Int) < (k : Int) := by omega
      have i0 : (0 : Int) ≤ (i : Int) := Int.natCast_nonneg _
      have iz : decide ((i : Int) < (k : Int)) = true := decide_eq_true i1
      obtain ⟨lv, hx⟩ := get_some (unhide HLK) h
      have HX := hide hx
      have cl := hp.lv i lv hx
      rw [Nat.zero_add] at cl
      have lt2 := hp.lt
      obtain ⟨e0, e1, e2, e3, e4, e5⟩ := vb6 hp.nx
      have ef := hp.nx.frozen
      have el := hp.nx.lt
      have g9g := hp.g9
      have k0 := hp.ne.cell (m := 0) rfl
      have k1 := hp.ne.cell (m := 1) rfl
      have kl := hp.ne.lt
      have HPa := hide (hp.set2 0 lv)
      have lvt := (unhide HLVL).1 lv |>.1 (List.mem_of_getElem? hx)
      have lv0 := good_tops (unhide HGD) lv lvt
      have lv1 := unhide HT lv lvt
      rw [unhide HL] at lv1
      have hq : Nr ⟨0, lv, a, bb⟩ := by unfold Nr; simp only; omega
      have HPq := hide (fun X hX => unhide HPU ⟨m, t, ⟨0, lv, a, bb⟩⟩ X hX hq rfl)
      have nl := hp.nl
      have g9ne : ¬ w.heap.size = g9 := by omega
      simp only at e0 e1 e2 e3 e4 e5 HPq
      clear hp htr hx hq lvt
      go_wp2_with fail
      refine (unhide HPq _ (unhide HPa).bel).mono ?_
      rintro e W3 ⟨⟨x3, rfl, hpsh⟩, hb3⟩
      have HP3 := hide ((unhide HPa).on hb3)
      have HPS := hide hpsh
      have x3b := rights_le (unhide HS) x3 hpsh.rt
      obtain ⟨e0, e1, e2, e3, e4, e5⟩ := vb6 (unhide HP3).nx
      have ef := (unhide HP3).nx.frozen
      have el := (unhide HP3).nx.lt
      have HPb := hide ((unhide HP3).set6 ⟨m, t, ⟨x3, lv, a, bb⟩⟩)
      simp only at e0 e1 e2 e3 e4 e5 HPb
      clear hb3 k0 k1 kl cl lt2 HPa hpsh
      go_wp2_with fail
      obtain ⟨q0, q1, q2, q3, q4, q5⟩ := vb6 (unhide HPb).nx
      simp only at q0 q1 q2 q3 q4 q5
      have HRI := hide (fun X => right_any m t ⟨x3, lv, a, bb⟩ X (by unfold Sm; simp only; omega))
      unfold ldV at HRI
      simp only at HRI
      refine Go.Code.wp_mono (Only.to (fun _ _ h => h)) (wi7 (R := x3 + a) (hide q0) (hide q1) (hide q2) (hide q3) (hide q4) (hide q5) (hide ((unhide HPb).ne.cell (m := 0) rfl)) (hide (fun Xw _ => unhide HRI Xw)) ?_)
      intro W4 hb4
      have HP4 := hide ((unhide HPb).on hb4)
      clear hb4 q0 q1 q2 q3 q4 q5 e0 e1 e2 e3 e4 e5 ef el HPb HP3 HRI
      by_cases hR : x3 + a ≤ Wd
      · have tR : decide (x3 + a ≤ Wd) = true := decide_eq_true hR
        have HLO := hide (tried_low (unhide HGD) (unhide HLVL) (unhide HTR) (unhide HX) (unhide HPS) hR)
        go_wp2_with fail
        obtain ⟨q0, q1, q2, q3, q4, q5⟩ := vb6 (unhide HP4).nx
        simp only at q0 q1 q2 q3 q4 q5
        refine Go.Code.wp_mono (Only.to (fun _ _ h => h)) (wi9 (oo0 := .int .i64 0) (oo1 := .slice none 0 0) (b := b) (po := po) (L := L) (hide ((unhide HP4).ne.cell (m := 0) rfl)) (hide ((unhide HP4).ne.cell (m := 1) rfl)) (hide q0) (hide q1) (hide q2) (hide q3) (hide q4) (hide q5) HL (hide (unhide HU _ (unhide HP4).bel)) hc (by omega) hu0 hu1 (unhide HP4).re.lt (hide ((unhide HP4).re.cell (m := 0) rfl)) (hide ((unhide HP4).re.cell (m := 1) rfl)) (hide (unhide HP4).re.frozen) ?_)
        intro n6 n7 c7 W5 W9 hW9 hb5 hnew
        have v2 := (unhide HP4).re.bel hb5
        have HB5 := hide (bc (unhide HP4).bel hb5)
        have r0 := v2.cell (m := 0) rfl
        have r1 := v2.cell (m := 1) rfl
        have rl := v2.lt
        have HNW := hide hnew
        have sz4 := (unhide HP4).re.lt
        have hge := hnew.ge
        clear hb5 hnew v2 q0 q1 q2 q3 q4 q5
        subst hW9
        go_wp2_with fail
        refine bodyPost_ret (v := .agg #[.int .i64 Wd, .slice (some ⟨n7, 0, none⟩) (n + 1) c7]) (by simp [results, Try.results23, go_sem, r0, r1, rl]) rfl ?_
        refine ⟨⟨n7, c7, x3, lv, rfl, unhide HLO, ⟨by simpa using (unhide HNW).lt, by omega, (unhide HNW).ca, (unhide HNW).cm, fun j v hj => ?_⟩⟩, ((unhide HB5).setCell (by simp; omega) _).setCell (by simp; omega) _⟩
        have h9 := (unhide HNW).cl j v hj
        rw [World.cell?_of_block (w := W5) (a := ⟨n7, j, none⟩)]
        · exact h9
        · exact (Below.heap_setCell _ _ _ _ (by simp; omega)).trans (Below.heap_setCell _ _ _ _ (by simp; omega))
      · have tR : decide (x3 + a ≤ Wd) = false := decide_eq_false hR
        have HTN : Hid (Tried (rcs L) Wd a bb Lv (i + 1)) := hide (fun j y' hj hy => by
          by_cases hji : j = i
          · subst hji
            rw [unhide HX] at hy
            cases hy
            exact ⟨x3, unhide HPS, by omega⟩
          · exact unhide HTR j y' (by omega) hy)
        go_wp2_with fail
        go_roundw
        case rel => first | exact ⟨i + 1, x3, lv, by simp, by omega, unhide HP4, unhide HTN⟩ | ((repeat apply Exists.intro); refine ⟨?_, rfl⟩; exact ⟨i + 1, x3, lv, by simp, by omega, unhide HP4, unhide HTN⟩)
        case measure => first | (simp only [intOf]; omega) | (simp [intOf]; omega)
    · have iz : decide ((i : Int) < (k : Int)) = false := decide_eq_false (by omega)
      obtain rfl : k = i := by omega
      exfalso
      refine tried_end (unhide HLVL) (Wd := Wd) (a := a) (b := bb) (by rw [unhide HLK]; exact htr) ha ?_
      intro x hx
      rcases List.mem_cons.1 hx with h0 | h0
      · omega
      · obtain ⟨r, hr, rfl⟩ := List.mem_map.1 h0
        have := unhide HGD r hr
        omega
end Go.Proofs.Ytoidhlackoigkaa
