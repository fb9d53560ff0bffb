/-
  The model's Nest.
-/
import Derived.Test.YtoidhlackoigkaaNsNm
import Derived.Test.YtoidhlackoigkaaNsCm
namespace Go.Proofs.Ytoidhlackoigkaa
open Go.ChangeShapes Go.WideShapes Go.ChangeAt Go.RowKit
set_option linter.unusedVariables false
set_option linter.unusedSimpArgs false

theorem nsM_bad (Wd : Int) (u : Option Addr) (p po n c : Nat) (P : List Pl) (w : World) (hl : P.length = n) (hn : n ≤ 9223372036854775807) (hu : Pls w u p po P) (hc : nsCode Wd P ≠ 0) :
    Calls Try.prog 8 #[.int .i64 Wd, .slice u n c] w fun e w' => (∃ v, e = .returned (.tuple #[v, .int .i64 0, .int .i64 (nsCode Wd P)]) ∧ w'.ownsRow w.heap.size 61 4 v 0 []) ∧ Below w.heap.size w w' := by
  have HC := hide (ncM_any Wd u p po n c P w hl hn hu)
  generalize nsCode Wd P = k at *
  have kz : (k != 0) = true := by simp [hc]
  clear hl hu
  go_enter Try.func8, Try.ntmps8
  go_wp2_with fail
  refine (unhide HC).mono ?_
  rintro e w1 ⟨rfl, hb⟩
  have HB := hide hb
  clear hb
  go_wp2_with fail
  refine bodyPost_ret (by simp [results, Try.results8, go_sem]; rfl) rfl ?_
  exact ⟨⟨_, rfl, own_made w1 61 w.heap.size 4 (unhide HB).size _ rfl⟩, ba (unhide HB) _⟩
/-- the numbers from 0 on -/
def ordN (n : Nat) : List Int := (List.range n).map fun j : Nat => (j : Int)
theorem ordN_len (n : Nat) : (ordN n).length = n := by simp [ordN]
theorem ordN_at {n i : Nat} (h : i < n) : (ordN n)[i]? = some (i : Int) := by simp [ordN, h]
theorem ordN_succ (n : Nat) : ordN (n + 1) = ordN n ++ [(n : Int)] := by simp [ordN, List.range_succ]
def turnd (Wd : Int) (P : List Pl) : List Bool := P.map fun p => decide (Wd < p.w)
theorem turnd_take {Wd : Int} {P : List Pl} {i : Nat} {p : Pl} (h : P[i]? = some p) : (turnd Wd P).take (i + 1) = (turnd Wd P).take i ++ [decide (Wd < p.w)] := by
  rw [List.take_add_one]
  congr 1
  simp [turnd, h]
/-- while the order is made -/
structure No (w W : World) (T : List Bool) (i : Nat) (k : Nat) (vo vt : Value) : Prop where
  bel : Below w.heap.size w W
  ord : Row W w.heap.size 3 1 vo k (ordN k)
  tur : W.ownsRow w.heap.size 4 1 vt i ((T.take i).map Value.bool)
  dj : Dj vo vt
theorem No.on {w W W2 : World} {T : List Bool} {i k : Nat} {vo vt : Value} (h : No w W T i k vo vt) (hb : Below W.heap.size W W2) : No w W2 T i k vo vt := ⟨bc h.bel hb, h.ord.below hb, own_bel h.tur hb, h.dj⟩
theorem No.o {w W W2 : World} {T : List Bool} {i : Nat} {vo vt vo' : Value} (h : No w W T i i vo vt) (hown : W2.ownsRow w.heap.size 3 1 vo' (i + 1) ((ordN i).map (Value.int .i64) ++ [(i : Int)].map (Value.int .i64))) (hgr : W.grownBy W2 vo.ownBlock) (hnb : NewBlk W vo vo') : No w W2 T i (i + 1) vo' vt := by
  refine ⟨h.bel.grown (B := w.heap.size) hgr h.bel.size (fun j e => (h.ord.lt _ e).1), ?_, own_grown h.tur hgr (fun q hq e => h.dj q e hq), ?_⟩
  · unfold Row
    rw [ordN_succ, List.map_append]
    exact hown
  · intro q hq e
    rcases hnb q hq with h1 | h1
    · exact h.dj q h1 e
    · have := (own_ge h.tur q e).2; omega
theorem No.t {w W W2 : World} {T : List Bool} {i : Nat} {b : Bool} {vo vt vt' : Value} (h : No w W T i (i + 1) vo vt) (hT : T.take (i + 1) = T.take i ++ [b]) (hown : W2.ownsRow w.heap.size 4 1 vt' (i + 1) ((T.take i).map Value.bool ++ [b].map Value.bool)) (hgr : W.grownBy W2 vt.ownBlock) (hnb : NewBlk W vt vt') : No w W2 T (i + 1) (i + 1) vo vt' := by
  refine ⟨h.bel.grown (B := w.heap.size) hgr h.bel.size (fun j e => (own_ge h.tur _ e).1), h.ord.grown hgr (fun q hq e => h.dj q hq e), ?_, ?_⟩
  · rw [hT, List.map_append]
    exact hown
  · intro q hq e
    rcases hnb q e with h1 | h1
    · exact h.dj q hq h1
    · have := (h.ord.lt q hq).2; omega
theorem Row.its1 {X : World} {B m cc : Nat} {u : Option Addr} {F : List Int} (h : Row X B 3 1 (.slice u m cc) m F) : ∃ p, Its X u p 0 F := by
  obtain ⟨u', c', hv, hf⟩ := h.form
  cases hv
  by_cases hm : m = 0
  · exact ⟨0, fun h0 => absurd (List.eq_nil_of_length_eq_zero (by have := h.len; omega)) h0⟩
  · obtain ⟨g, rfl, h1, h2, h3⟩ := hf hm
    exact ⟨g, fun _ => ⟨rfl, h2, h3⟩⟩
theorem own_bls {X : World} {B m cc : Nat} {u : Option Addr} {T : List Bool} (h : X.ownsRow B 4 1 (.slice u m cc) m (T.map Value.bool)) (hl : T.length = m) : ∃ p, Bls X u p 0 T := by
  obtain ⟨u', c', hv, _, _, hf⟩ := own_form h
  cases hv
  by_cases hm : m = 0
  · exact ⟨0, fun h0 => absurd (List.eq_nil_of_length_eq_zero (by omega)) h0⟩
  · obtain ⟨g, rfl, h1, h2, h3⟩ := hf hm
    exact ⟨g, fun _ => ⟨rfl, h2, fun j t hj => by rw [Nat.zero_add]; exact h3 j _ (by rw [List.getElem?_map, hj]; rfl)⟩⟩
theorem plan_ok {Wd : Int} {P : List Pl} (hp : ∀ p ∈ P, (1 ≤ p.w ∧ p.w ≤ 1000) ∧ 1 ≤ p.h ∧ p.h ≤ 1000) (hf : ∀ p ∈ P, p.w ≤ Wd ∨ p.h ≤ Wd) : PlanOk Wd P (ordN P.length) (turnd Wd P) (plan Wd P) := by
  intro i q hq
  have hi : i < P.length := by have := (List.getElem?_eq_some_iff.1 hq).1; rwa [plan_len] at this
  have hx : P[i]? = some P[i] := List.getElem?_eq_getElem hi
  have hq2 : (plan Wd P)[i]? = some (itmOf Wd i P[i]) := by simp [plan, hx]
  rw [hq2] at hq
  cases hq
  refine ⟨i, P[i], decide (Wd < P[i].w), ordN_at hi, hx, by simp [turnd, hx], rfl, hp _ (List.getElem_mem hi), itm_fit (hf _ (List.getElem_mem hi))⟩
theorem bool_info : (Try.prog.info? 4).map (fun i => (i.zero, i.size, i.bytes)) = some (some (.bool false), 1, 1) := by kernel_rfl
theorem bools_one {L : List Bool} : ∀ u ∈ L.map Value.bool, u.oneCell' = true := by
  intro u hu
  obtain ⟨x, _, rfl⟩ := List.mem_map.1 hu
  rfl
set_option maxHeartbeats 8000000 in
set_option maxRecDepth 100000 in
theorem nsM_good (Wd : Int) (u : Option Addr) (p po n c : Nat) (P : List Pl) (w : World) (hl : P.length = n) (hu : Pls w u p po P) (hc : nsCode Wd P = 0) :
    Calls Try.prog 8 #[.int .i64 Wd, .slice u n c] w fun e w' => (∃ v L, e = .returned (.tuple #[v, .int .i64 (hgtOf L), .int .i64 0]) ∧ w'.ownsRow w.heap.size 61 4 v n (flatG spC L) ∧ Nst Wd L ∧ Fol (plan Wd P) L) ∧ Below w.heap.size w w' := by
  obtain ⟨hW, hlen, hpl, hfit⟩ := code_good hc
  rw [hl] at hlen
  have HC := hide (ncM_any Wd u p po n c P w hl (by omega) hu)
  rw [hc] at HC
  have HU := hide (fun X (hX : Below w.heap.size w X) => hu.bel hX)
  have HL := hide hl
  have HPO := hide (plan_ok hpl hfit)
  have HTL : Hid ((turnd Wd P).length = n) := hide (by simp [turnd, hl])
  have n0 : (0 : Int) ≤ (n : Int) := Int.natCast_nonneg _
  obtain ⟨iP, hi1, hp0, hp1, hp2⟩ := info_parts int_info3
  obtain ⟨iQ, hj1, hq0, hq1, hq2⟩ := info_parts bool_info
  clear hl hu hpl hfit hc
  go_enter Try.func8, Try.ntmps8
  go_wp2_with fail
  refine (unhide HC).mono ?_
  rintro e w1 ⟨rfl, hb1⟩
  have HN0 : Hid (No w ((w1.alloc (.cells #[] 3)).alloc (.cells #[] 4)) (turnd Wd P) 0 0 (.slice (some ⟨w1.heap.size, 0, none⟩) 0 0) (.slice (some ⟨w1.heap.size + 1, 0, none⟩) 0 0)) := hide
    ⟨ba (ba hb1 _) _, (row_made w1 3 w.heap.size 1 hb1.size _ rfl).below (ba (Below.refl _ _) _), own_made _ 4 w.heap.size 1 (by have := hb1.size; simp; omega) _ (by simp), fun q h1 h2 => by simp [Value.ownBlock] at h1 h2; omega⟩
  clear hb1
  go_wp2_with fail
  go_loopw [8, 9, 10] (fun vo vt s W => ∃ i : Nat, s = .int .i64 (i : Int) ∧ i ≤ n ∧ No w W (turnd Wd P) i i vo vt) (fun _ _ s _ => n - (intOf s).toNat)
  case atStart => exact ⟨0, rfl, Nat.zero_le _, unhide HN0⟩
  case round =>
    clear HN0 HC
    obtain ⟨i, rfl, hi, hN⟩ := hrel
    have HN := hide hN
    by_cases h : i < n
    · have i1 : (i : Int) < (n : Int) := by omega
      have i0 : (0 : Int) ≤ (i : Int) := Int.natCast_nonneg _
      have iz : decide ((i : Int) < (n : Int)) = true := decide_eq_true i1
      obtain ⟨q, hx⟩ := get_some (unhide HL) h
      obtain ⟨rfl, _, _, _⟩ := (unhide HU _ hN.bel).at hx
      have HX := hide hx
      clear hN hx
      go_wp2_with (at_builtin; refine unhide ?_)
      refine hide ?_
      have HN3 := hide ((unhide HN).on (ba (Below.refl _ _) (.cells #[.int .i64 (i : Int)] 3)))
      have HNW := hide (vb_new wr 3 ([(i : Int)].map (Value.int .i64)) wr.heap.size rfl)
      refine wpList_append_new _ rfl _ _ 51 rfl w.heap.size 3 iP _ 1 8 Try.underlying51 hi1 hp0 hp1 hp2 rfl (by decide) _ _ _ rfl (unhide HN3).ord _ 1 1 ([(i : Int)].map (Value.int .i64)) rfl rfl (by exact src_vb (unhide HNW)) ints_one (by unfold maxLen; omega) (by omega) (unhide HN3).bel.size ?_
      intro vo' W4 hown hgr _ hnb
      have HN4 := hide ((unhide HN3).o hown hgr hnb)
      obtain ⟨_, pl, k0, k1⟩ := (unhide HU _ (unhide HN4).bel).at (unhide HX)
      clear hown hgr hnb HN3 HNW
      go_wp2_with (at_builtin; refine unhide ?_)
      refine hide ?_
      have HN5 := hide ((unhide HN4).on (ba (Below.refl _ _) (.cells #[.bool (decide (Wd < q.w))] 4)))
      have HNW := hide (vb_new W4 4 ([decide (Wd < q.w)].map Value.bool) W4.heap.size rfl)
      refine wpList_append_new _ rfl _ _ 52 rfl w.heap.size 4 iQ _ 1 1 Try.underlying52 hj1 hq0 hq1 hq2 rfl (by decide) _ _ _ rfl (unhide HN5).tur _ 1 1 ([decide (Wd < q.w)].map Value.bool) rfl rfl (by exact src_any (unhide HNW)) bools_one (by unfold maxLen; omega) (by omega) (unhide HN5).bel.size ?_
      intro vt' W6 hown hgr _ hnb
      have HN6 := hide ((unhide HN5).t (turnd_take (unhide HX)) hown hgr hnb)
      clear hown hgr hnb HN5 HNW pl k0 k1
      go_wp2_with fail
      go_roundw
      case rel => first | exact ⟨i + 1, by simp, by omega, unhide HN6⟩ | ((repeat apply Exists.intro); refine ⟨?_, rfl⟩; exact ⟨i + 1, by simp, by omega, unhide HN6⟩)
      case measure => first | (simp only [intOf]; omega) | (simp [intOf]; omega)
    · have iz : decide ((i : Int) < (n : Int)) = false := decide_eq_false (by omega)
      obtain rfl : n = i := by omega
      have ht : (turnd Wd P).take n = turnd Wd P := List.take_of_length_le (Nat.le_of_eq (unhide HTL))
      have htu := hN.tur
      rw [ht] at htu
      obtain ⟨uo, co, rfl, _⟩ := hN.ord.form
      obtain ⟨ut, ct, rfl, _⟩ := own_form htu
      obtain ⟨po', hO⟩ := hN.ord.its1
      obtain ⟨pt', hT⟩ := own_bls htu (unhide HTL)
      have HNM := hide (nm_any Wd u uo ut p po n c po' 0 n co pt' 0 ct P (ordN n) (turnd Wd P) (plan Wd P) wr (unhide HL) (by omega) (ordN_len n) (unhide HTL) (by rw [plan_len]; exact unhide HL) (by omega) (unhide HU _ hN.bel) hO hT hW (by have := unhide HPO; rwa [unhide HL] at this))
      have HBW := hide hN.bel
      clear hN htu ht hO hT
      go_wp2_with fail
      refine (unhide HNM).mono ?_
      rintro e W2 ⟨⟨v, L, rfl, hown, hnst, hfol, _⟩, hb2⟩
      have HOW := hide (own_mono hown (unhide HBW).size)
      have HBE := hide (bc (unhide HBW) hb2)
      have HST := hide hnst
      have HFO := hide hfol
      clear hown hnst hfol hb2
      go_wp2_with fail
      refine bodyPost_ret (v := .tuple #[v, .int .i64 (hgtOf L), .int .i64 0]) (by simp [results, Try.results8, go_sem]) rfl ?_
      exact ⟨⟨v, L, rfl, unhide HOW, unhide HST, unhide HFO⟩, unhide HBE⟩
end Go.Proofs.Ytoidhlackoigkaa
