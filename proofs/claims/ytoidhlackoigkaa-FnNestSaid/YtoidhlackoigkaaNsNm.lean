/-
  The model's nest: plates laid in an order, each turned or not.
-/
import Derived.Test.YtoidhlackoigkaaNm12
import Derived.Test.YtoidhlackoigkaaNsNq
import Derived.Test.YtoidhlackoigkaaPl67
namespace Go.Proofs.Ytoidhlackoigkaa
open Go.ChangeShapes Go.WideShapes Go.ChangeAt Go.RowKit
set_option linter.unusedVariables false
set_option linter.unusedSimpArgs false

def flat4 (R : List Rc) : List Int := R.flatMap fun a => [a.x, a.y, a.w, a.h]
theorem flat4_len (R : List Rc) : (flat4 R).length = R.length * 4 := by
  induction R with
  | nil => rfl
  | cons s S ih => simp only [flat4, List.flatMap_cons, List.length_append, List.length_cons] at ih ⊢; simp at ih ⊢; omega
theorem flat4_app (A B : List Rc) : flat4 (A ++ B) = flat4 A ++ flat4 B := by simp [flat4]
theorem flat4_at {R : List Rc} {i j : Nat} {a : Rc} {v : Value} (h : R[i]? = some a) (hv : (rcC a)[j]? = some v) : ((flat4 R).map (Value.int .i64))[i * 4 + j]? = some v := by
  induction R generalizing i with
  | nil => cases h
  | cons s L ih =>
    have hj : j < 4 := (List.getElem?_eq_some_iff.1 hv).1
    cases i with
    | zero =>
      simp at h; subst h
      simp only [flat4, List.flatMap_cons, List.map_append]
      rw [List.getElem?_append_left (by simpa using hj), Nat.zero_mul, Nat.zero_add]
      exact hv
    | succ i =>
      have := ih (i := i) (by simpa using h)
      simp only [flat4, List.flatMap_cons, List.map_append] at this ⊢
      rw [List.getElem?_append_right (by simp; omega), ← this]
      simp only [List.length_map, List.length_cons, List.length_nil]
      congr 1
      omega
theorem Row.rcs {W : World} {B c n : Nat} {u : Option Addr} {R : List Rc} (h : Row W B 84 4 (.slice u n c) n (flat4 R)) : ∃ b, Rcs W u b 0 R := by
  obtain ⟨u', c', hv, hf⟩ := h.form
  cases hv
  by_cases hn : n = 0
  · refine ⟨0, fun h0 => absurd ?_ h0⟩
    have := h.len
    rw [flat4_len] at this
    exact List.eq_nil_of_length_eq_zero (by omega)
  · obtain ⟨g, rfl, h1, h2, h3⟩ := hf hn
    refine ⟨g, fun _ => ⟨rfl, h2, fun j l hj k v hk => ?_⟩⟩
    have h4 := flat4_at hj hk
    rw [List.getElem?_map] at h4
    cases hx : (flat4 R)[j * 4 + k]? with
    | none => rw [hx] at h4; cases h4
    | some z =>
      rw [hx] at h4
      simp at h4
      subst h4
      have := h3 (j * 4 + k) z hx
      rw [Nat.zero_add] at this ⊢
      exact this
/-- where truth values lie -/
def Bls (w : World) (u : Option Addr) (p po : Nat) (T : List Bool) : Prop := T ≠ [] → u = some ⟨p, po, none⟩ ∧ p < w.heap.size ∧ ∀ (j : Nat) (t : Bool), T[j]? = some t → w.cell? ⟨p, po + j, none⟩ = some (.bool t)
theorem Bls.bel {w w' : World} {u : Option Addr} {p po : Nat} {T : List Bool} (h : Bls w u p po T) (hb : Below w.heap.size w w') : Bls w' u p po T :=
  fun h0 => ⟨(h h0).1, Nat.lt_of_lt_of_le (h h0).2.1 hb.size, fun j t hj => keep1 hb ((h h0).2.2 j t hj)⟩
theorem Bls.at {w : World} {u : Option Addr} {p po : Nat} {T : List Bool} (h : Bls w u p po T) {i : Nat} {t : Bool} (hx : T[i]? = some t) : u = some ⟨p, po, none⟩ ∧ p < w.heap.size ∧ w.cell? ⟨p, po + i, none⟩ = some (.bool t) := by
  obtain ⟨h1, h2, h3⟩ := h (by intro e; subst e; cases hx)
  exact ⟨h1, h2, h3 i t hx⟩
theorem own_grown {w w' : World} {B t k n : Nat} {v : Value} {L : List Value} {o : Option Nat} (h : w.ownsRow B t k v n L) (hg : w.grownBy w' o) (hd : ∀ q, v.ownBlock = some q → o ≠ some q) : w'.ownsRow B t k v n L :=
  own_kept h fun q hq => hg.block q (own_ge h q hq).2 (fun e => hd q hq e.symm)
/-- an order, each turned or not, as a plan -/
def PlanOk (Wd : Int) (P : List Pl) (O : List Int) (T : List Bool) (Q : List Itm) : Prop := ∀ (i : Nat) (q : Itm), Q[i]? = some q → ∃ (k : Nat) (p : Pl) (t : Bool), O[i]? = some (k : Int) ∧ P[k]? = some p ∧ T[i]? = some t ∧ q = ⟨(k : Int), t, twd t p.w p.h, twd t p.h p.w⟩ ∧ ((1 ≤ p.w ∧ p.w ≤ 1000) ∧ 1 ≤ p.h ∧ p.h ≤ 1000) ∧ twd t p.w p.h ≤ Wd
/-- while plates are laid -/
structure Nm (w W : World) (Wd : Int) (Q : List Itm) (i : Nat) (R : List Rc) (L : List Ld) (vl vo : Value) : Prop where
  bel : Below w.heap.size w W
  lie : Row W w.heap.size 84 4 vl R.length (flat4 R)
  out : W.ownsRow w.heap.size 61 4 vo i (flatG spC L)
  dj : Dj vl vo
  len : L.length = i
  nst : Nst Wd L
  fol : Fol (Q.take i) L
  near : Near L
theorem Nm.on {w W W2 : World} {Wd : Int} {Q : List Itm} {i : Nat} {R : List Rc} {L : List Ld} {vl vo : Value} (h : Nm w W Wd Q i R L vl vo) (hb : Below W.heap.size W W2) : Nm w W2 Wd Q i R L vl vo :=
  ⟨bc h.bel hb, h.lie.below hb, own_bel h.out hb, h.dj, h.len, h.nst, h.fol, h.near⟩
theorem Nm.lieN {w W W2 : World} {Wd : Int} {Q : List Itm} {i : Nat} {L : List Ld} {vl vo vl' : Value} {x y wi he : Int} (h : Nm w W Wd Q i (rcs L) L vl vo) (hown : W2.ownsRow w.heap.size 84 4 vl' ((rcs L).length + 1) ((flat4 (rcs L)).map (Value.int .i64) ++ [x, y, wi, he].map (Value.int .i64))) (hgr : W.grownBy W2 vl.ownBlock) (hnb : NewBlk W vl vl') (hlow : Low Wd (rcs L) wi he x y) (_ : (0 : Nat) = 0 ∧ (0 : Nat) = 0) : Nm w W2 Wd Q i (rcs L ++ [⟨x, y, wi, he⟩]) L vl' vo := by
  refine ⟨h.bel.grown (B := w.heap.size) hgr h.bel.size (fun j e => (h.lie.lt _ e).1), ?_, own_grown h.out hgr (fun q hq e => h.dj q e hq), ?_, h.len, h.nst, h.fol, h.near⟩
  · unfold Row
    rw [flat4_app, List.map_append, List.length_append]
    exact hown
  · intro q hq e
    rcases hnb q hq with h1 | h1
    · exact h.dj q h1 e
    · have := (own_ge h.out q e).2; omega
theorem Nm.outN {w W W2 : World} {Wd : Int} {Q : List Itm} {i : Nat} {L : List Ld} {l : Ld} {q : Itm} {vl vo vo' : Value} {x y wi he : Int} (h : Nm w W Wd Q i (rcs L ++ [⟨x, y, wi, he⟩]) L vl vo) (hq : Q[i]? = some q) (hown : W2.ownsRow w.heap.size 61 4 vo' (i + 1) (flatG spC L ++ spC l)) (hgr : W.grownBy W2 vo.ownBlock) (hnb : NewBlk W vo vo') (hlow : Low Wd (rcs L) wi he x y) (hl : l.a = ⟨x, y, wi, he⟩) (hi : i ≤ 900) (hW : Wd ≤ 1000) (hs : (1 ≤ wi ∧ wi ≤ 1000) ∧ 1 ≤ he ∧ he ≤ 1000) (hp : l.n = q.n ∧ l.t = q.t ∧ l.a.w = q.w ∧ l.a.h = q.h) : Nm w W2 Wd Q (i + 1) (rcs (L ++ [l])) (L ++ [l]) vl vo' := by
  have hlow' : Low Wd (rcs L) l.a.w l.a.h l.a.x l.a.y := by rw [hl]; exact hlow
  have hr : rcs (L ++ [l]) = rcs L ++ [⟨x, y, wi, he⟩] := by simp [rcs, hl]
  refine ⟨h.bel.grown (B := w.heap.size) hgr h.bel.size (fun j e => (own_ge h.out _ e).1), ?_, ?_, ?_, by simp [h.len], nst_snoc h.nst hlow', ?_, near_snoc h.near hW (by rw [h.len]; exact hi) hlow' (by rw [hl]; exact hs)⟩
  · rw [hr]
    exact h.lie.grown hgr (fun q hq e => h.dj q hq e)
  · rw [flatG_append]
    have : flatG spC [l] = spC l := by simp [flatG]
    rw [this]
    exact hown
  · intro q hq e
    rcases hnb q e with h1 | h1
    · exact h.dj q hq h1
    · have := (h.lie.lt q hq).2; omega
  · rw [List.take_add_one, hq]
    exact fol_snoc h.fol hp
theorem rect_info : (Try.prog.info? 84).map (fun i => (i.zero, i.size, i.bytes)) = some (some (.agg #[.int .i64 0, .int .i64 0, .int .i64 0, .int .i64 0]), 4, 32) := by kernel_rfl
set_option maxHeartbeats 8000000 in
set_option maxRecDepth 100000 in
theorem nm_any (Wd : Int) (up uo ut : Option Addr) (pp ppo np cp ob oo n co tb tf ct : Nat) (P : List Pl) (O : List Int) (T : List Bool) (Q : List Itm) (w : World) (hP : P.length = np) (hnp : np ≤ 1000) (hO : O.length = n) (hT : T.length = n) (hQ : Q.length = n) (hn : n ≤ 900)
    (hup : Pls w up pp ppo P) (huo : Its w uo ob oo O) (hut : Bls w ut tb tf T) (hW : 1 ≤ Wd ∧ Wd ≤ 1000) (hpl : PlanOk Wd P O T Q) :
    Calls Try.prog 26 #[.int .i64 Wd, .slice up np cp, .slice uo n co, .slice ut n ct] w fun e w' => (∃ v L, e = .returned (.tuple #[v, .int .i64 (hgtOf L)]) ∧ w'.ownsRow w.heap.size 61 4 v n (flatG spC L) ∧ Nst Wd L ∧ Fol Q L ∧ Near L) ∧ Below w.heap.size w w' := by
  have HP := hide (fun X (hX : Below w.heap.size w X) => hup.bel hX)
  have HO := hide (fun X (hX : Below w.heap.size w X) => huo.bel hX)
  have HT := hide (fun X (hX : Below w.heap.size w X) => hut.bel hX)
  have HPn := hide hP
  have HQn := hide hQ
  have HPLAN := hide hpl
  have n0 : (0 : Int) ≤ (n : Int) := Int.natCast_nonneg _
  obtain ⟨iQ, hj1, hq0, hq1, hq2⟩ := info_parts rect_info
  have HN0 : Hid (Nm w ((w.alloc (.cells #[] 84)).alloc (.cells #[] 61)) Wd Q 0 [] [] (.slice (some ⟨w.heap.size, 0, none⟩) 0 0) (.slice (some ⟨w.heap.size + 1, 0, none⟩) 0 0)) := hide
    ⟨ba (ba (Below.refl _ _) _) _, (row_made w 84 w.heap.size 4 (Nat.le_refl _) _ rfl).below (ba (Below.refl _ _) _), own_made _ 61 w.heap.size 4 (by simp) _ (by simp), fun q h1 h2 => by simp [Value.ownBlock] at h1 h2; omega, rfl, nst_nil _, fol_nil, near_nil⟩
  clear hup huo hut hP hQ hO hT hpl
  go_enter Try.func26, Try.ntmps26
  go_wp2_with fail
  go_loopw [10, 11, 12, 13, 14, 15] (fun vl vo hv s _ _ W => ∃ (i : Nat) (L : List Ld), s = .int .i64 (i : Int) ∧ i ≤ n ∧ hv = .int .i64 (hgtOf L) ∧ Nm w W Wd Q i (rcs L) L vl vo) (fun _ _ _ s _ _ _ => n - (intOf s).toNat)
  case atStart => exact ⟨0, [], rfl, Nat.zero_le _, rfl, unhide HN0⟩
  case round =>
    clear HN0
    obtain ⟨i, L, rfl, hi, rfl, hN⟩ := hrel
    have HN := hide hN
    by_cases h : i < n
    · have i1 : (i : Int) < (n : Int) := by omega
      have i0 : (0 : Int) ≤ (i : Int) := Int.natCast_nonneg _
      have iz : decide ((i : Int) < (n : Int)) = true := decide_eq_true i1
      obtain ⟨q, hqx⟩ := get_some (unhide HQn) h
      obtain ⟨k, p, t, hox, hpx, htx, rfl, hpb, hfit⟩ := unhide HPLAN i q hqx
      have HQX := hide hqx
      have HOX := hide hox
      have HTX := hide htx
      have hkn : k < np := by have := (List.getElem?_eq_some_iff.1 hpx).1; rw [unhide HPn] at this; exact this
      have k1 : (k : Int) < (np : Int) := by omega
      have k0 : (0 : Int) ≤ (k : Int) := Int.natCast_nonneg _
      obtain ⟨rfl, ol, oc⟩ := (unhide HO _ hN.bel).at hox
      obtain ⟨rfl, tl, tc⟩ := (unhide HT _ hN.bel).at htx
      obtain ⟨rfl, pl, p0, p1⟩ := (unhide HP _ hN.bel).at hpx
      have HTB : (1 ≤ twd t p.w p.h ∧ twd t p.w p.h ≤ 1000) ∧ 1 ≤ twd t p.h p.w ∧ twd t p.h p.w ≤ 1000 := ⟨twd_bd hpb, twd_bd ⟨hpb.2, hpb.1⟩⟩
      have HYB : Hid (∀ x y, Low Wd (rcs L) (twd t p.w p.h) (twd t p.h p.w) x y → 0 ≤ y ∧ y ≤ 1000 * (L.length : Int)) := hide (fun x y hlow => ⟨good_tops (good_nr hN.near.nr) _ hlow.can.tp, hgt_tops hN.near.hg _ hlow.can.tp⟩)
      have hLl := hN.len
      obtain ⟨ul, cl, rfl, hfl⟩ := hN.lie.form
      obtain ⟨bl, hrc⟩ := hN.lie.rcs
      have HPL := hide (fun X (hX : Below wr.heap.size wr X) => plM_any Wd ul bl 0 (rcs L).length cl (rcs L) (twd t p.w p.h) (twd t p.h p.w) X rfl (by rw [rcs_len]; omega) (hrc.bel hX) (fun a ha => by obtain ⟨l, hl, rfl⟩ := List.mem_map.1 ha; exact hN.near.nr l hl) hW ⟨HTB.1.1, hfit⟩ HTB.2)
      have HRL := hide (rcs_len L)
      clear hN hqx hox htx hpx hfl hrc hfit
      generalize hrl : (rcs L).length = rl at *
      have rlb : rl ≤ 900 := by have := unhide HRL; omega
      cases t with
      | true =>
        have e1 : twd true p.w p.h = p.h := rfl
        have e2 : twd true p.h p.w = p.w := rfl
        rw [e1, e2] at HTB HPL HYB
        rw [e1, e2] at HQX
        clear e1 e2
        go_wp2_with fail
        refine (unhide HPL _ (ba (Below.refl _ _) _)).mono ?_
        rintro e W2 ⟨⟨x, y, rfl, hlow⟩, hb2⟩
        have HLO := hide hlow
        have HN2 := hide (((unhide HN).on (ba (Below.refl _ _) _)).on hb2)
        have HBB := hide hb2.size
        unfold rcV
        simp only
        clear hb2 hlow
        go_wp2_with (at_builtin; refine unhide ?_)
        refine hide ?_
        have HN3 := hide ((unhide HN2).on (ba (ba (Below.refl W2.heap.size W2) (.cells #[.int .i64 x, .int .i64 y, .int .i64 p.h, .int .i64 p.w] 84)) (.cells #[.int .i64 x, .int .i64 y, .int .i64 p.h, .int .i64 p.w] 84)))
        have HV3 := hide (vb_new1 W2 84 [.int .i64 x, .int .i64 y, .int .i64 p.h, .int .i64 p.w] (.cells #[.int .i64 x, .int .i64 y, .int .i64 p.h, .int .i64 p.w] 84))
        have HNW := hide (vb_new2 W2 84 ([x, y, p.h, p.w].map (Value.int .i64)) (.cells #[.int .i64 x, .int .i64 y, .int .i64 p.h, .int .i64 p.w] 84))
        refine wpList_append_new _ rfl _ _ 82 rfl w.heap.size 84 iQ _ 4 32 Try.underlying82 hj1 hq0 hq1 hq2 rfl (by decide) _ _ _ rfl (unhide HN3).lie _ 1 1 ([x, y, p.h, p.w].map (Value.int .i64)) rfl rfl (by exact src_vb (unhide HNW)) ints_one (by unfold maxLen; omega) (by omega) (unhide HN3).bel.size ?_
        intro vl' W4 hown hgr _ hnb
        have sz2 : wr.heap.size ≤ W2.heap.size := by have := unhide HBB; simp at this; omega
        have HN4 := hide ((unhide HN3).lieN hown hgr hnb (unhide HLO) ⟨rfl, rfl⟩)
        have HV4 := hide ((unhide HV3).grown hgr (fun e => by have h9 := ((unhide HN).lie.lt _ e).2; omega))
        clear hown hgr hnb HV3 HNW HN3 HN2 HBB
        go_wp2_with fail
        have HO4 := hide ((unhide HO _ (unhide HN4).bel).at (unhide HOX)).2.2
        have HT4 := hide ((unhide HT _ (unhide HN4).bel).at (unhide HTX)).2.2
        refine Go.Code.wp_mono (Only.to (fun _ _ h => h)) (nm12 (B := w.heap.size) (L := flatG spC L) HO4 HT4 (hide ((unhide HV4).cell (m := 0) rfl)) (hide ((unhide HV4).cell (m := 1) rfl)) (hide h) (hide (unhide HN4).out) (unhide HN4).bel.size (by omega) ?_)
        intro n14 vo' W5 W6 hb5 hown hgr hnb
        have HN6 := hide (((unhide HN4).on hb5).outN (l := ⟨(k : Int), true, ⟨x, y, p.h, p.w⟩⟩) (unhide HQX) hown hgr hnb (unhide HLO) rfl (by omega) hW.2 HTB ⟨rfl, rfl, by simp [twd], by simp [twd]⟩)
        have HV6 := hide (((unhide HV4).bel hb5).grown hgr (fun e => by have h9 := (own_ge (unhide HN).out _ e).2; omega))
        have c1 := (unhide HV6).cell (m := 1) rfl
        have c3 := (unhide HV6).cell (m := 3) rfl
        have HMX : Hid (max (hgtOf L) (y + p.w) = hgtOf (L ++ [⟨(k : Int), true, ⟨x, y, p.h, p.w⟩⟩])) := hide (hgtOf_snoc L ⟨(k : Int), true, ⟨x, y, p.h, p.w⟩⟩).symm
        have yb := (unhide HYB) x y (unhide HLO)
        have wy : IntKind.i64.wrap (y + p.w) = y + p.w := wrap_i (by omega) (by omega)
        have HLO2 := HLO
        clear hb5 hown hgr hnb HV4 HO4 HT4
        generalize hgtOf L = hh at *
        go_wp2_with fail
        go_roundw
        case rel => first | exact ⟨i + 1, _, by simp, by omega, by rw [unhide HMX], unhide HN6⟩ | ((repeat apply Exists.intro); refine ⟨?_, rfl⟩; exact ⟨i + 1, _, by simp, by omega, by rw [unhide HMX], unhide HN6⟩)
        case measure => first | (simp only [intOf]; omega) | (simp [intOf]; omega)
      | false =>
        have e1 : twd false p.w p.h = p.w := rfl
        have e2 : twd false p.h p.w = p.h := rfl
        rw [e1, e2] at HTB HPL HYB
        rw [e1, e2] at HQX
        clear e1 e2
        go_wp2_with fail
        refine (unhide HPL _ (ba (Below.refl _ _) _)).mono ?_
        rintro e W2 ⟨⟨x, y, rfl, hlow⟩, hb2⟩
        have HLO := hide hlow
        have HN2 := hide (((unhide HN).on (ba (Below.refl _ _) _)).on hb2)
        have HBB := hide hb2.size
        unfold rcV
        simp only
        clear hb2 hlow
        go_wp2_with (at_builtin; refine unhide ?_)
        refine hide ?_
        have HN3 := hide ((unhide HN2).on (ba (ba (Below.refl W2.heap.size W2) (.cells #[.int .i64 x, .int .i64 y, .int .i64 p.w, .int .i64 p.h] 84)) (.cells #[.int .i64 x, .int .i64 y, .int .i64 p.w, .int .i64 p.h] 84)))
        have HV3 := hide (vb_new1 W2 84 [.int .i64 x, .int .i64 y, .int .i64 p.w, .int .i64 p.h] (.cells #[.int .i64 x, .int .i64 y, .int .i64 p.w, .int .i64 p.h] 84))
        have HNW := hide (vb_new2 W2 84 ([x, y, p.w, p.h].map (Value.int .i64)) (.cells #[.int .i64 x, .int .i64 y, .int .i64 p.w, .int .i64 p.h] 84))
        refine wpList_append_new _ rfl _ _ 82 rfl w.heap.size 84 iQ _ 4 32 Try.underlying82 hj1 hq0 hq1 hq2 rfl (by decide) _ _ _ rfl (unhide HN3).lie _ 1 1 ([x, y, p.w, p.h].map (Value.int .i64)) rfl rfl (by exact src_vb (unhide HNW)) ints_one (by unfold maxLen; omega) (by omega) (unhide HN3).bel.size ?_
        intro vl' W4 hown hgr _ hnb
        have sz2 : wr.heap.size ≤ W2.heap.size := by have := unhide HBB; simp at this; omega
        have HN4 := hide ((unhide HN3).lieN hown hgr hnb (unhide HLO) ⟨rfl, rfl⟩)
        have HV4 := hide ((unhide HV3).grown hgr (fun e => by have h9 := ((unhide HN).lie.lt _ e).2; omega))
        clear hown hgr hnb HV3 HNW HN3 HN2 HBB
        go_wp2_with fail
        have HO4 := hide ((unhide HO _ (unhide HN4).bel).at (unhide HOX)).2.2
        have HT4 := hide ((unhide HT _ (unhide HN4).bel).at (unhide HTX)).2.2
        refine Go.Code.wp_mono (Only.to (fun _ _ h => h)) (nm12 (B := w.heap.size) (L := flatG spC L) HO4 HT4 (hide ((unhide HV4).cell (m := 0) rfl)) (hide ((unhide HV4).cell (m := 1) rfl)) (hide h) (hide (unhide HN4).out) (unhide HN4).bel.size (by omega) ?_)
        intro n14 vo' W5 W6 hb5 hown hgr hnb
        have HN6 := hide (((unhide HN4).on hb5).outN (l := ⟨(k : Int), false, ⟨x, y, p.w, p.h⟩⟩) (unhide HQX) hown hgr hnb (unhide HLO) rfl (by omega) hW.2 HTB ⟨rfl, rfl, by simp [twd], by simp [twd]⟩)
        have HV6 := hide (((unhide HV4).bel hb5).grown hgr (fun e => by have h9 := (own_ge (unhide HN).out _ e).2; omega))
        have c1 := (unhide HV6).cell (m := 1) rfl
        have c3 := (unhide HV6).cell (m := 3) rfl
        have HMX : Hid (max (hgtOf L) (y + p.h) = hgtOf (L ++ [⟨(k : Int), false, ⟨x, y, p.w, p.h⟩⟩])) := hide (hgtOf_snoc L ⟨(k : Int), false, ⟨x, y, p.w, p.h⟩⟩).symm
        have yb := (unhide HYB) x y (unhide HLO)
        have wy : IntKind.i64.wrap (y + p.h) = y + p.h := wrap_i (by omega) (by omega)
        have HLO2 := HLO
        clear hb5 hown hgr hnb HV4 HO4 HT4
        generalize hgtOf L = hh at *
        go_wp2_with fail
        go_roundw
        case rel => first | exact ⟨i + 1, _, by simp, by omega, by rw [unhide HMX], unhide HN6⟩ | ((repeat apply Exists.intro); refine ⟨?_, rfl⟩; exact ⟨i + 1, _, by simp, by omega, by rw [unhide HMX], unhide HN6⟩)
        case measure => first | (simp only [intOf]; omega) | (simp [intOf]; omega)
    · have iz : decide ((i : Int) < (n : Int)) = false := decide_eq_false (by omega)
      obtain rfl : n = i := by omega
      have HF : Hid (Fol Q L) := hide (by have := hN.fol; rwa [List.take_of_length_le (Nat.le_of_eq (unhide HQn))] at this)
      clear hN
      go_wp2_with fail
      refine bodyPost_ret (by simp [results, Try.results26, go_sem]; rfl) rfl ?_
      exact ⟨⟨_, L, rfl, (unhide HN).out, (unhide HN).nst, unhide HF, (unhide HN).near⟩, (unhide HN).bel⟩
end Go.Proofs.Ytoidhlackoigkaa
