/-
  The program's Nest.
-/
import Derived.Test.YtoidhlackoigkaaNsNp
namespace Go.Proofs.Ytoidhlackoigkaa
open Go.ChangeShapes Go.WideShapes Go.ChangeAt Go.RowKit
set_option linter.unusedVariables false
set_option linter.unusedSimpArgs false

/-- how a plate is to be laid by Nest -/
def itmOf (Wd : Int) (i : Nat) (p : Pl) : Itm := ⟨(i : Int), decide (Wd < p.w), twd (decide (Wd < p.w)) p.w p.h, twd (decide (Wd < p.w)) p.h p.w⟩
def plan (Wd : Int) (P : List Pl) : List Itm := P.mapIdx (itmOf Wd)
theorem plan_len (Wd : Int) (P : List Pl) : (plan Wd P).length = P.length := by simp [plan]
theorem plan_take {Wd : Int} {P : List Pl} {i : Nat} {p : Pl} (h : P[i]? = some p) : (plan Wd P).take (i + 1) = (plan Wd P).take i ++ [itmOf Wd i p] := by
  rw [List.take_add_one]
  congr 1
  simp [plan, h]
theorem code_good {Wd : Int} {P : List Pl} (h : nsCode Wd P = 0) : (1 ≤ Wd ∧ Wd ≤ 1000) ∧ P.length ≤ 100 ∧ (∀ p ∈ P, (1 ≤ p.w ∧ p.w ≤ 1000) ∧ 1 ≤ p.h ∧ p.h ≤ 1000) ∧ ∀ p ∈ P, p.w ≤ Wd ∨ p.h ≤ Wd := by
  unfold nsCode at h
  split at h
  · omega
  · split at h
    · rename_i h1
      simp only [Bool.and_eq_true, inR_iff, decide_eq_true_eq, List.all_eq_true] at h1
      split at h
      · omega
      · rename_i h2
        refine ⟨h1.1, h1.2.1, fun p hp => ?_, fun p hp => ?_⟩
        · have := h1.2.2 p hp
          simp only [plOk, Bool.and_eq_true, inR_iff] at this
          exact this
        · apply Decidable.byContradiction
          intro hc
          apply h2
          rw [List.any_eq_true]
          refine ⟨p, hp, ?_⟩
          simp only [plBig, Bool.and_eq_true, decide_eq_true_eq]
          omega
    · omega
theorem itm_fit {Wd : Int} {p : Pl} (h : p.w ≤ Wd ∨ p.h ≤ Wd) : twd (decide (Wd < p.w)) p.w p.h ≤ Wd := by
  unfold twd
  by_cases hw : Wd < p.w
  · simp [hw]; omega
  · simp [hw]; omega
theorem twd_bd {t : Bool} {a b : Int} (h : (1 ≤ a ∧ a ≤ 1000) ∧ 1 ≤ b ∧ b ≤ 1000) : 1 ≤ twd t a b ∧ twd t a b ≤ 1000 := by unfold twd; split <;> omega
theorem nsP_bad (Wd : Int) (u : Option Addr) (p po n c : Nat) (P : List Pl) (w : World) (hl : P.length = n) (hn : n ≤ 9223372036854775807) (hu : Pls w u p po P) (hc : nsCode Wd P ≠ 0) :
    Calls Try.prog 7 #[.int .i64 Wd, .slice u n c] w fun e w' => e = .returned (.tuple #[.slice none 0 0, .int .i64 0, .int .i64 (nsCode Wd P)]) ∧ Below w.heap.size w w' := by
  have HC := hide (ncP_any Wd u p po n c P w hl hn hu)
  generalize nsCode Wd P = k at *
  have kz : (k != 0) = true := by simp [hc]
  clear hl hu
  go_enter Try.func7, Try.ntmps7
  go_wp2_with fail
  refine (unhide HC).mono ?_
  rintro e w' ⟨rfl, hb⟩
  have HB := hide hb
  clear hb
  go_wp2_with fail
  refine bodyPost_ret (v := .tuple #[.slice none 0 0, .int .i64 0, .int .i64 k]) (by simp [results, Try.results7, go_sem]) rfl ?_
  exact ⟨rfl, unhide HB⟩
/-- the nest so far -/
structure Nn (w W : World) (Wd : Int) (g : Nat) (P : List Pl) (i : Nat) (L : List Ld) (u : Option Addr) (c b po : Nat) : Prop where
  bel : Below w.heap.size w W
  ne : vb W g 47 [.int .i64 Wd, .slice u i c]
  ge : w.heap.size ≤ g
  ld : Lds W u b po L
  len : L.length = i
  nst : Nst Wd L
  fol : Fol ((plan Wd P).take i) L
  near : Near L
  ca : i ≤ c
  u0 : u = none → c = 0
  u1 : i = 0 → u = none
theorem Nn.on {w W W2 : World} {Wd : Int} {g : Nat} {P : List Pl} {i : Nat} {L : List Ld} {u : Option Addr} {c b po : Nat} (h : Nn w W Wd g P i L u c b po) (hb : Below W.heap.size W W2) : Nn w W2 Wd g P i L u c b po :=
  ⟨bc h.bel hb, h.ne.bel hb, h.ge, h.ld.bel hb, h.len, h.nst, h.fol, h.near, h.ca, h.u0, h.u1⟩
theorem Nn.next {w W W2 : World} {Wd : Int} {g : Nat} {P : List Pl} {i : Nat} {L : List Ld} {u : Option Addr} {c b po : Nat} {pl : Pl} {x y : Int} {g2 cap : Nat} (h : Nn w W Wd g P i L u c b po) (hb : Below W.heap.size W W2) (hp : P[i]? = some pl) (hW : Wd ≤ 1000) (hi : i ≤ 900)
    (hpl : (1 ≤ pl.w ∧ pl.w ≤ 1000) ∧ 1 ≤ pl.h ∧ pl.h ≤ 1000)
    (hlow : Low Wd (rcs L) (twd (decide (Wd < pl.w)) pl.w pl.h) (twd (decide (Wd < pl.w)) pl.h pl.w) x y) (hnew : NewL W W2 g2 i cap (L ++ [⟨(i : Int), decide (Wd < pl.w), ⟨x, y, twd (decide (Wd < pl.w)) pl.w pl.h, twd (decide (Wd < pl.w)) pl.h pl.w⟩⟩])) :
    Nn w ((W2.setCell ⟨g, 0, none⟩ (.int .i64 Wd)).setCell ⟨g, 1, none⟩ (.slice (some ⟨g2, 0, none⟩) (i + 1) cap)) Wd g P (i + 1) (L ++ [⟨(i : Int), decide (Wd < pl.w), ⟨x, y, twd (decide (Wd < pl.w)) pl.w pl.h, twd (decide (Wd < pl.w)) pl.h pl.w⟩⟩]) (some ⟨g2, 0, none⟩) cap g2 0 := by
  have hgl := h.ne.lt
  have hge := hnew.ge
  refine ⟨((bc h.bel hb).setCell h.ge _).setCell h.ge _, ((h.ne.bel hb).set 0 _).set 1 _, h.ge, ?_, by simp [h.len], nst_snoc h.nst hlow, ?_, near_snoc h.near hW (by rw [h.len]; exact hi) hlow ⟨twd_bd hpl, twd_bd ⟨hpl.2, hpl.1⟩⟩, hnew.ca, fun e => (by cases e), fun e => (by omega)⟩
  · refine lds_new (by simpa using hnew.lt) (fun j v hj => ?_)
    have h9 := hnew.cl j v hj
    rw [World.cell?_of_block (w := W2) (a := ⟨g2, j, none⟩)]
    · exact h9
    · exact (Below.heap_setCell _ _ _ _ (by show g2 ≠ g; omega)).trans (Below.heap_setCell _ _ _ _ (by show g2 ≠ g; omega))
  · rw [plan_take hp]
    exact fol_snoc h.fol ⟨rfl, rfl, rfl, rfl⟩
set_option maxHeartbeats 4000000 in
theorem nsP_good (Wd : Int) (u : Option Addr) (p po n c : Nat) (P : List Pl) (w : World) (hl : P.length = n) (hu : Pls w u p po P) (hc : nsCode Wd P = 0) :
    Calls Try.prog 7 #[.int .i64 Wd, .slice u n c] w fun e w' => (∃ g L, e = .returned (.tuple #[.slice (some ⟨g, 0, none⟩) n n, .int .i64 (hgtOf L), .int .i64 0]) ∧ vb w' g 61 (flatG spC L) ∧ w.heap.size ≤ g ∧ Nst Wd L ∧ Fol (plan Wd P) L ∧ Near L) ∧ Below w.heap.size w w' := by
  obtain ⟨hW, hlen, hpl, hfit⟩ := code_good hc
  rw [hl] at hlen
  have HC := hide (ncP_any Wd u p po n c P w hl (by omega) hu)
  rw [hc] at HC
  have HU := hide (fun X (hX : Below w.heap.size w X) => hu.bel hX)
  have HL := hide hl
  have HPL := hide hpl
  have HFI := hide hfit
  have n0 : (0 : Int) ≤ (n : Int) := Int.natCast_nonneg _
  clear hl hu hpl hfit hc
  go_enter Try.func7, Try.ntmps7
  go_wp2_with fail
  refine (unhide HC).mono ?_
  rintro e w1 ⟨rfl, hb1⟩
  have HB1 := hide hb1
  have HN0 : Hid (Nn w (w1.alloc (.cells #[.int .i64 Wd, .slice none 0 0] 47)) Wd w1.heap.size P 0 [] none 0 0 0) := hide
    ⟨ba hb1 _, vb_new w1 47 [.int .i64 Wd, .slice none 0 0] _ rfl, hb1.size, fun h => absurd rfl h, rfl, nst_nil _, fol_nil, near_nil, Nat.le_refl _, fun _ => rfl, fun _ => rfl⟩
  clear hb1
  go_wp2_with fail
  generalize hg8 : w1.heap.size = g8 at *
  clear hg8
  go_loopw [9, 10, 21] (fun _ _ s W => ∃ (i : Nat) (L : List Ld) (u' : Option Addr) (c' b' po' : Nat), s = .int .i64 (i : Int) ∧ i ≤ n ∧ Nn w W Wd g8 P i L u' c' b' po') (fun _ _ s _ => n - (intOf s).toNat)
  case atStart => exact ⟨0, [], none, 0, 0, 0, rfl, Nat.zero_le _, unhide HN0⟩
  case round =>
    clear HN0 HB1 HC
    obtain ⟨i, L, u', c', b', po', rfl, hi, hN⟩ := hrel
    have HN := hide hN
    by_cases h : i < n
    · have i1 : (i : Int) < (n : Int) := by omega
      have i0 : (0 : Int) ≤ (i : Int) := Int.natCast_nonneg _
      have iz : decide ((i : Int) < (n : Int)) = true := decide_eq_true i1
      obtain ⟨q, hx⟩ := get_some (unhide HL) h
      have HX := hide hx
      obtain ⟨rfl, pw, k0, k1⟩ := (unhide HU _ hN.bel).at hx
      have e0 := hN.ne.cell (m := 0) rfl
      have e1 := hN.ne.cell (m := 1) rfl
      have el := hN.ne.lt
      have hq := unhide HPL q (List.mem_of_getElem? hx)
      have HQ := hide hq
      have HWI := hide (fun X (hX : Below wr.heap.size wr X) => wiP_any Wd (i : Int) q.w q.h (decide (Wd < q.w)) u' b' po' i c' L X hN.len (by omega) (hN.ld.bel hX) hN.near.nr hN.near.hg hN.ca hN.u0 hN.u1 hW hq (itm_fit (unhide HFI q (List.mem_of_getElem? hx))))
      clear hN hx pw hq
      go_wp2_with fail
      refine (unhide HWI _ (ba (Below.refl _ _) _)).mono ?_
      rintro e W2 ⟨⟨g2, cap, x, y, rfl, hlow, hnew⟩, hb2⟩
      have HN2 := hide (((unhide HN).on (ba (Below.refl _ _) (.cells #[.int .i64 q.w, .int .i64 q.h] 31))).next hb2 (unhide HX) hW.2 (by omega) (unhide HQ) hlow hnew)
      have v8 := ((unhide HN).ne.bel (ba (Below.refl _ _) (.cells #[.int .i64 q.w, .int .i64 q.h] 31))).bel hb2
      have f0 := v8.cell (m := 0) rfl
      have f1 := v8.cell (m := 1) rfl
      have ff := v8.frozen
      clear hb2 hlow hnew v8 k0 k1 e0 e1 el HWI
      go_wp2_with fail
      go_roundw
      case rel => first | exact ⟨i + 1, _, _, _, _, _, by simp, by omega, unhide HN2⟩ | ((repeat apply Exists.intro); refine ⟨?_, rfl⟩; exact ⟨i + 1, _, _, _, _, _, by simp, by omega, unhide HN2⟩)
      case measure => first | (simp only [intOf]; omega) | (simp [intOf]; omega)
    · have iz : decide ((i : Int) < (n : Int)) = false := decide_eq_false (by omega)
      obtain rfl : n = i := by omega
      have HSP := hide (fun X (hX : Below wr.heap.size wr X) => spP_any Wd u' b' po' n c' L X hN.len (by omega) (hN.ld.bel hX))
      have HHE := hide (fun X (hX : Below wr.heap.size wr X) => heP_any Wd u' b' po' n c' L X hN.len (by omega) (hN.ld.bel hX) hN.near)
      have e0 := hN.ne.cell (m := 0) rfl
      have e1 := hN.ne.cell (m := 1) rfl
      have el := hN.ne.lt
      have HF : Hid (Fol (plan Wd P) L) := hide (by have := hN.fol; rwa [List.take_of_length_le (by rw [plan_len, unhide HL]; exact Nat.le_refl _)] at this)
      have HST := hide hN.nst
      have HNR := hide hN.near
      have HBW := hide hN.bel
      have szw := hN.bel.size
      clear hN
      go_wp2_with fail
      go_region_held3 (fun wx => wx.cell? ⟨g8, 0, none⟩ = some (.int .i64 Wd) ∧ wx.cell? ⟨g8, 1, none⟩ = some (.slice u' n c'))
        (simp (maxDischargeDepth := 12) [go_sem, le1, lt1, *])
        (first
        | (go_at_call 24; refine (unhide HSP _ (by repeat (first | exact Below.refl _ _ | exact unhide HB25 | refine Below.drew ?_))).mono ?_; rintro e w' ⟨⟨g, rfl, hv, hg⟩, hb⟩; have HVG := hide hv; have HGG := hide hg; have HB24 := hide (show Below wr.heap.size wr w' from bc (by repeat (first | exact Below.refl _ _ | exact unhide HB25 | refine Below.drew ?_)) hb); have y0 := keep1 hb (b := g8) (o := 0) (v := .int .i64 Wd) (by simp (maxDischargeDepth := 12) [go_sem, le1, lt1, *]); have y1 := keep1 hb (b := g8) (o := 1) (v := .slice u' n c') (by simp (maxDischargeDepth := 12) [go_sem, le1, lt1, *]); clear hb hv hg)
        | (go_at_call 25; refine (unhide HHE _ (by repeat (first | exact Below.refl _ _ | exact unhide HB24 | refine Below.drew ?_))).mono ?_; rintro e w' ⟨rfl, hb⟩; have HBX := hide hb; have HB25 := hide (show Below wr.heap.size wr w' from bc (by repeat (first | exact Below.refl _ _ | exact unhide HB24 | refine Below.drew ?_)) hb); have y0' := keep1 hb (b := g8) (o := 0) (v := .int .i64 Wd) (by simp (maxDischargeDepth := 12) [go_sem, le1, lt1, *]); have y1' := keep1 hb (b := g8) (o := 1) (v := .slice u' n c') (by simp (maxDischargeDepth := 12) [go_sem, le1, lt1, *]); clear hb))
      all_goals
        have HVH := hide ((unhide HVG).bel (unhide HBX))
        have HBE := hide (bc (unhide HBW) (unhide HB25))
        go_wp2_with fail
        refine bodyPost_ret (v := .tuple #[.slice (some ⟨g, 0, none⟩) n n, .int .i64 (hgtOf L), .int .i64 0]) (by simp [results, Try.results7, go_sem]) rfl ?_
        exact ⟨⟨g, L, rfl, unhide HVH, Nat.le_trans szw (unhide HGG), unhide HST, unhide HF, unhide HNR⟩, unhide HBE⟩
end Go.Proofs.Ytoidhlackoigkaa
