/-
  The model's search through all ways of turning.
-/
import Derived.Test.YtoidhlackoigkaaWy51
import Derived.Test.YtoidhlackoigkaaNbSt
namespace Go.Proofs.Ytoidhlackoigkaa
open Go.ChangeShapes Go.WideShapes Go.ChangeAt Go.RowKit
set_option linter.unusedVariables false
set_option linter.unusedSimpArgs false

/-- what ways leaves behind -/
def WyQ (w0 W W' : World) (Wd : Int) (P : List Pl) (up : Option Addr) (n cp sB tB : Nat) (od : List Nat) (T : List Bool) (b' : Option (List Ld)) (vo : Value) (k : Nat) : Prop :=
  (∃ T' ve' hi', StS w0 W' Wd P up n n cp sB tB od T' b' vo ve' hi' ∧ T'.take k = T.take k) ∧ Fr2 sB tB W W'
theorem take_set {α : Type} (T : List α) (k : Nat) (t : α) : (T.set k t).take k = T.take k := by
  rw [List.take_set]
  apply List.set_eq_of_length_le
  rw [List.length_take]
  omega
theorem take_less {α : Type} {T T' : List α} {k : Nat} (h : T'.take (k + 1) = T.take (k + 1)) : T'.take k = T.take k := by
  have := congrArg (List.take k) h
  rwa [List.take_take, List.take_take, Nat.min_eq_left (by omega)] at this
theorem upd_none {Wd : Int} {Q : List Itm} {L : List Ld} (h : nestOf Wd Q = L) : bst Wd none [Q] = some L := by show upd Wd none Q = _; unfold upd; rw [h]
theorem upd_less {Wd : Int} {Q : List Itm} {L B : List Ld} (h : nestOf Wd Q = L) (hl : hgtOf L < hgtOf B) : bst Wd (some B) [Q] = some L := by show upd Wd (some B) Q = _; unfold upd; simp only; rw [h, if_pos hl]
theorem upd_not {Wd : Int} {Q : List Itm} {L B : List Ld} (h : nestOf Wd Q = L) (hl : ¬ hgtOf L < hgtOf B) : bst Wd (some B) [Q] = some B := by show upd Wd (some B) Q = _; unfold upd; simp only; rw [h, if_neg hl]
set_option maxHeartbeats 16000000 in
set_option maxRecDepth 100000 in
theorem ways_leaf (w0 : World) (Wd : Int) (P : List Pl) (up : Option Addr) (pp ppo cp sB tB : Nat) (od : List Nat) (vo : Value) (n : Nat) (hn : n ≤ 900) (hup : Pls w0 up pp ppo P) (hW : 1 ≤ Wd ∧ Wd ≤ 1000)
    (pre : List Itm) (T : List Bool) (b : Option (List Ld)) (ve : Value) (hi : Int) (W : World) (hpre : pre.length = n) (hplan : PlanOk Wd P (ints od) T pre) (hst : StS w0 W Wd P up n n cp sB tB od T b vo ve hi) :
    Calls Try.prog 51 #[.pointer (some ⟨sB, 0, none⟩), .int .i64 (n : Int)] W fun e W' => e = .returned (.tuple #[]) ∧ WyQ w0 W W' Wd P up n cp sB tB od T (bst Wd b [pre]) vo n := by
  have HST := hide hst
  obtain ⟨uo, co, rfl, _⟩ := hst.ord.form
  obtain ⟨po', hO⟩ := hst.ord.its1
  obtain ⟨hNs, hFo⟩ := nestOf_spec (plan_fit hplan)
  have hLl : (nestOf Wd pre).length = n := by rw [hFo.1]; exact hpre
  have HNM : Hid (∀ Xw, Below W.heap.size W Xw → Calls Try.prog 26 #[.int .i64 Wd, .slice up n cp, .slice uo n co, .slice (some ⟨tB, 0, none⟩) n n] Xw fun e w' => (∃ r_, e = .returned (.tuple #[r_, .int .i64 (hgtOf (nestOf Wd pre))]) ∧ (fun v_ => w'.ownsRow W.heap.size 61 4 v_ n (flatG spC (nestOf Wd pre))) r_) ∧ Below Xw.heap.size Xw w') := hide (fun X hX => by
    refine (nm_any Wd up uo (some ⟨tB, 0, none⟩) pp ppo n cp po' 0 n co tB 0 n P (ints od) T pre X hst.pn (by omega) (by rw [ints_len]; exact hst.om) hst.tl hpre hn (hup.bel (hst.bel.trans (hX.mono hst.bel.size))) (hO.bel hX) (fun _ => ⟨rfl, Nat.lt_of_lt_of_le hst.tur.lt hX.size, fun j t hj => by rw [Nat.zero_add]; exact (hst.tur.bel hX).cell (by rw [List.getElem?_map, hj]; rfl)⟩) hW hplan).mono ?_
    rintro e w' ⟨⟨v, L, rfl, h1, h2, h3, _⟩, hb⟩
    have e9 := nestOf_eq h2 h3
    rw [e9]
    exact ⟨⟨v, rfl, own_mono h1 hX.size⟩, hb⟩)
  have HH0 : Hid (0 ≤ hgtOf (nestOf Wd pre)) := hide (by have := hgt_app [] (nestOf Wd pre); simpa [hgtOf] using this)
  have HBE := hide hst.be
  generalize hnl : nestOf Wd pre = L at *
  have HNL := hide hnl
  generalize hhh : hgtOf L = hh at *
  have HHH := hide hhh
  have c0 := hst.s.cell (m := 0) rfl
  have c1 := hst.s.cell (m := 1) rfl
  have c2 := hst.s.cell (m := 2) rfl
  have c3 := hst.s.cell (m := 3) rfl
  have kk : ((n : Int) == (n : Int)) = true := by simp
  have k00 : (0 : Int) ≤ (n : Int) := Int.natCast_nonneg _
  clear hO hNs hFo hplan hup hnl hhh hst
  go_enter Try.func51, Try.ntmps51
  go_wp2_with fail
  refine Go.Code.wp_mono (Only.to (fun _ _ h => h)) (wy1 (B := W.heap.size) (nn := n) (F := flatG spC L) (hide c0) (hide c1) (hide c2) (hide c3) HNM ?_)
  intro v W1 hb1 hv
  obtain ⟨uv, cv, rfl, _⟩ := own_form hv
  have HS1 := hide ((unhide HST).on hb1)
  have HV : Hid (W1.ownsRow W.heap.size 61 4 (.slice uv n cv) L.length (flatG spC L)) := hide (by rw [hLl]; exact hv)
  have HF1 := hide (Fr2.bel (a := sB) (b := tB) hb1)
  have d4 := (unhide HS1).s.cell (m := 4) rfl
  have d5 := (unhide HS1).s.cell (m := 5) rfl
  have df := (unhide HS1).s.frozen
  clear hb1 hv c0 c1 c2 c3 HNM
  cases b with
  | none =>
    obtain ⟨rfl, rfl⟩ := unhide HBE
    have t1 : decide ((-1 : Int) < 0) = true := rfl
    go_wp2_with fail
    refine bodyPost_ret (v := .tuple #[]) (by simp [results, Try.results51, go_sem]) rfl ⟨rfl, ?_⟩
    refine ⟨⟨T, .slice uv n cv, hgtOf L, ?_, rfl⟩, ?_⟩
    · rw [upd_none (unhide HNL)]
      have h9 := (unhide HS1).better (L := L) (by rw [unhide HHH]; exact unhide HH0) (unhide HST) (unhide HV)
      rw [unhide HHH] at h9 ⊢
      exact h9
    · exact ((unhide HF1).set1 _ _).set1 _ _
  | some B =>
    obtain ⟨hB, hB0, _⟩ := unhide HBE
    have t1 : decide (hi < 0) = false := decide_eq_false (by omega)
    by_cases hlt : hh < hi
    · have t2 : decide (hh < hi) = true := decide_eq_true hlt
      have HE := hide (upd_less (unhide HNL) (show hgtOf L < hgtOf B by rw [unhide HHH]; omega))
      clear hB hB0
      go_wp2_with fail
      refine bodyPost_ret (v := .tuple #[]) (by simp [results, Try.results51, go_sem]) rfl ⟨rfl, ?_⟩
      refine ⟨⟨T, .slice uv n cv, hgtOf L, ?_, rfl⟩, ?_⟩
      · rw [unhide HE]
        have h9 := (unhide HS1).better (L := L) (by rw [unhide HHH]; exact unhide HH0) (unhide HST) (unhide HV)
        rw [unhide HHH] at h9 ⊢
        exact h9
      · exact ((unhide HF1).set1 _ _).set1 _ _
    · have t2 : decide (hh < hi) = false := decide_eq_false hlt
      have HE := hide (upd_not (unhide HNL) (show ¬ hgtOf L < hgtOf B by rw [unhide HHH]; omega))
      clear hB hB0
      go_wp2_with fail
      refine bodyPost_ret (v := .tuple #[]) (by simp [results, Try.results51, go_sem]) rfl ⟨rfl, ?_⟩
      refine ⟨⟨T, ve, hi, ?_, rfl⟩, unhide HF1⟩
      rw [unhide HE]
      exact unhide HS1
theorem set_at {α : Type} {T : List α} {k : Nat} {t : α} (h : k < T.length) : (T.set k t)[k]? = some t := by rw [List.getElem?_set_self h]
set_option maxHeartbeats 16000000 in
set_option maxRecDepth 100000 in
theorem ways_step (w0 : World) (Wd : Int) (P : List Pl) (up : Option Addr) (pp ppo cp sB tB : Nat) (od : List Nat) (vo : Value) (n : Nat) (hn : n ≤ 900) (hup : Pls w0 up pp ppo P) (hW : 1 ≤ Wd ∧ Wd ≤ 1000)
    (j : Nat) (p : Pl) (r : List Nat) (k : Nat) (pre : List Itm) (T : List Bool) (b : Option (List Ld)) (ve : Value) (hi : Int) (W : World) (hk : k < n) (hod : od[k]? = some j) (hpj : P[j]? = some p) (hjn : j < n) (hp : (1 ≤ p.w ∧ p.w ≤ 1000) ∧ 1 ≤ p.h ∧ p.h ≤ 1000) (hpre : pre.length = k) (hplan : PlanOk Wd P (ints od) T pre) (hst : StS w0 W Wd P up n n cp sB tB od T b vo ve hi)
    (IH : ∀ (pre : List Itm) (T : List Bool) (b : Option (List Ld)) (ve : Value) (hi : Int) (W : World), pre.length = k + 1 → PlanOk Wd P (ints od) T pre → StS w0 W Wd P up n n cp sB tB od T b vo ve hi → Calls Try.prog 51 #[.pointer (some ⟨sB, 0, none⟩), .int .i64 ((k + 1 : Nat) : Int)] W fun e W' => e = .returned (.tuple #[]) ∧ WyQ w0 W W' Wd P up n cp sB tB od T (bst Wd b (lv Wd P r pre)) vo (k + 1)) :
    Calls Try.prog 51 #[.pointer (some ⟨sB, 0, none⟩), .int .i64 (k : Int)] W fun e W' => e = .returned (.tuple #[]) ∧ WyQ w0 W W' Wd P up n cp sB tB od T (bst Wd b (lv Wd P (j :: r) pre)) vo k := by
  have HST := hide hst
  have HIH := hide IH
  have HPLAN := hide hplan
  have HPRE := hide hpre
  have HOD := hide (show (ints od)[pre.length]? = some (j : Int) by rw [hpre]; exact ints_at hod)
  have HPJ := hide hpj
  have HPB := hide hp
  have HLV := hide (lv_cons (Wd := Wd) hpj r pre)
  obtain ⟨uo, co, rfl, hfo⟩ := hst.ord.form
  obtain ⟨gO, rfl, hgO, hgl, hints⟩ := hfo (by omega)
  obtain ⟨rfl, ppl, p0, p1⟩ := (hup.bel hst.bel).at hpj
  have c1 := hst.s.cell (m := 1) rfl
  have c2 := hst.s.cell (m := 2) rfl
  have cO := hints k (j : Int) (ints_at hod)
  rw [Nat.zero_add] at cO
  have kn : ((k : Int) == (n : Int)) = false := by simp; omega
  have k00 : (0 : Int) ≤ (k : Int) := Int.natCast_nonneg _
  have k1 : (k : Int) < (n : Int) := by omega
  have wk : IntKind.i64.wrap ((k : Int) + 1) = (k : Int) + 1 := wrap_i (by omega) (by omega)
  have ck : ((k + 1 : Nat) : Int) = (k : Int) + 1 := by omega
  rw [ck] at HIH
  clear hst IH hplan hpre hfo hints hup hod hpj hp ck
  go_enter Try.func51, Try.ntmps51
  go_wp2_with fail
  refine Go.Code.wp_mono (Only.to (fun _ _ h => h)) (wy5 (pw := p.w) (ph := p.h) (j := j) (hide c1) (hide c2) (hide cO) (hide p0) (hide p1) (hide hk) (hide hjn) ?_)
  intro g W1 hb1 hv1 hg1
  have HS1 := hide ((unhide HST).on hb1)
  have HV1 := hide hv1
  have HF1 := hide (Fr2.bel (a := sB) (b := tB) hb1)
  have gs : g ≠ sB := by have := (unhide HST).s.lt; omega
  have gt : g ≠ tB := by have := (unhide HST).tur.lt; omega
  clear hb1 hv1 hg1 c1 c2 cO p0 p1 ppl
  go_wp2_with fail
  refine Go.Code.wp_mono (Only.to (fun _ _ h => h)) (wy6 (Wd := Wd) (pw := p.w) (hide ((unhide HS1).s.cell (m := 0) rfl)) (hide ((unhide HV1).cell (m := 0) rfl)) ?_)
  intro W2 hb2
  have HS2 := hide ((unhide HS1).on hb2)
  have HV2 := hide ((unhide HV1).bel hb2)
  have HF2 := hide ((unhide HF1).trans (Fr2.bel hb2))
  clear hb2 HS1 HV1 HF1
  have SEC : ∀ (T2 : List Bool) (b2 : Option (List Ld)) (ve2 : Value) (hi2 : Int) (X : World), StS w0 X Wd P (some ⟨pp, ppo, none⟩) n n cp sB tB od T2 b2 (.slice (some ⟨gO, 0, none⟩) n co) ve2 hi2 → vb X g 31 [.int .i64 p.w, .int .i64 p.h] → Fr2 sB tB W X → T2.take k = T.take k → p.h ≤ Wd →
      ∃ _ : (0 : Nat) = 0, ∀ (hs : StS w0 (X.setCell ⟨tB, k, none⟩ (.bool true)) Wd P (some ⟨pp, ppo, none⟩) n n cp sB tB od (T2.set k true) b2 (.slice (some ⟨gO, 0, none⟩) n co) ve2 hi2), Calls Try.prog 51 #[.pointer (some ⟨sB, 0, none⟩), .int .i64 ((k : Int) + 1)] (X.setCell ⟨tB, k, none⟩ (.bool true)) fun e W' => e = .returned (.tuple #[]) ∧ WyQ w0 W W' Wd P (some ⟨pp, ppo, none⟩) n cp sB tB od T (bst Wd b2 (lv Wd P r (pre ++ [itmT j true p]))) (.slice (some ⟨gO, 0, none⟩) n co) k := by
    intro T2 b2 ve2 hi2 X hs2 hv2 hf2 ht2 hfit
    refine ⟨rfl, fun hs => ?_⟩
    have hT := hs2.tl
    refine (unhide HIH (pre ++ [itmT j true p]) (T2.set k true) b2 ve2 hi2 _ (by rw [List.length_append, unhide HPRE]; rfl) (plan_snoc (plan_mono (unhide HPLAN) (by rw [unhide HPRE, take_set]; exact ht2)) (unhide HOD) (unhide HPJ) (by rw [unhide HPRE]; exact set_at (by omega)) (unhide HPB) hfit) hs).mono ?_
    rintro e W' ⟨rfl, ⟨T', ve', hi', q1, q2⟩, q3⟩
    exact ⟨rfl, ⟨T', ve', hi', q1, (take_less q2).trans ((take_set T2 k true).trans ht2)⟩, (hf2.set2 k (.bool true)).trans q3⟩
  have HSEC := hide SEC
  clear SEC
  have tl2 := (unhide HS2).tl
  obtain ⟨oldb, hold⟩ : ∃ x, T[k]? = some x := ⟨_, List.getElem?_eq_getElem (by omega)⟩
  by_cases hw : p.w ≤ Wd
  · have t1 : decide (p.w ≤ Wd) = true := decide_eq_true hw
    have d3 := (unhide HS2).s.cell (m := 3) rfl
    have dT := (unhide HS2).tur.cell (m := k) (x := .bool oldb) (by rw [List.getElem?_map, hold]; rfl)
    have dF := (unhide HS2).tur.frozen
    have HS3 := hide ((unhide HS2).turn k false)
    have HV3 := hide ((unhide HV2).ne (g' := tB) (o := k) (x := .bool false) gt)
    have HF3 := hide ((unhide HF2).set2 k (.bool false))
    have HC3 := hide (unhide HIH (pre ++ [itmT j false p]) (T.set k false) b ve hi _ (by rw [List.length_append, unhide HPRE]; rfl) (plan_snoc (plan_mono (unhide HPLAN) (by rw [unhide HPRE, take_set])) (unhide HOD) (unhide HPJ) (by rw [unhide HPRE]; exact set_at (by omega)) (unhide HPB) hw) (unhide HS3))
    go_wp2_with fail
    refine (unhide HC3).mono ?_
    rintro e W4 ⟨rfl, ⟨T4, ve4, hi4, hs4, ht4⟩, hf4⟩
    have HS4 := hide hs4
    have HV4 := hide (hf4.vb (unhide HV3) gs gt)
    have HF4 := hide ((unhide HF3).trans hf4)
    have HT4 := hide ((take_less ht4).trans (take_set T k false))
    have HB4 : Hid (bst Wd b (lv Wd P (j :: r) pre) = bst Wd (bst Wd b (lv Wd P r (pre ++ [itmT j false p]))) (if p.h ≤ Wd then lv Wd P r (pre ++ [itmT j true p]) else [])) := hide (by rw [unhide HLV, if_pos hw, bst_app])
    clear hs4 ht4 hf4 d3 dT dF HS3 HV3 HF3 HC3 HS2 HV2 HF2 hold
    generalize bst Wd b (lv Wd P r (pre ++ [itmT j false p])) = b4 at *
    go_wp2_with fail
    refine Go.Code.wp_mono (Only.to (fun _ _ h => h)) (wy9 (Wd := Wd) (ph := p.h) (hide ((unhide HS4).s.cell (m := 0) rfl)) (hide ((unhide HV4).cell (m := 1) rfl)) ?_)
    intro W5 hb5
    have HS5 := hide ((unhide HS4).on hb5)
    have HV5 := hide ((unhide HV4).bel hb5)
    have HF5 := hide ((unhide HF4).trans (Fr2.bel hb5))
    clear hb5 HS4 HV4 HF4
    have tl5 := (unhide HS5).tl
    obtain ⟨oldc, hold⟩ : ∃ x, T4[k]? = some x := ⟨_, List.getElem?_eq_getElem (by omega)⟩
    by_cases hh : p.h ≤ Wd
    · have t2 : decide (p.h ≤ Wd) = true := decide_eq_true hh
      have d3 := (unhide HS5).s.cell (m := 3) rfl
      have dT := (unhide HS5).tur.cell (m := k) (x := .bool oldc) (by rw [List.getElem?_map, hold]; rfl)
      have dF := (unhide HS5).tur.frozen
      obtain ⟨_, hC⟩ := unhide HSEC T4 b4 ve4 hi4 W5 (unhide HS5) (unhide HV5) (unhide HF5) (unhide HT4) hh
      have HC := hide (hC ((unhide HS5).turn k true))
      rw [if_pos hh] at HB4
      clear hC hold
      go_wp2_with fail
      refine (unhide HC).mono ?_
      rintro e W6 ⟨rfl, hq⟩
      have HQ6 := hide hq
      clear hq
      go_wp2_with fail
      refine bodyPost_end (v := .tuple #[]) (by simp [results, Try.results51, go_sem]) rfl ⟨rfl, ?_⟩
      rw [unhide HB4]
      exact unhide HQ6
    · have t2 : decide (p.h ≤ Wd) = false := decide_eq_false hh
      rw [if_neg hh] at HB4
      clear hold
      go_wp2_with fail
      refine bodyPost_end (v := .tuple #[]) (by simp [results, Try.results51, go_sem]) rfl ⟨rfl, ?_⟩
      rw [unhide HB4]
      exact ⟨⟨T4, ve4, hi4, unhide HS5, unhide HT4⟩, unhide HF5⟩
  · have t1 : decide (p.w ≤ Wd) = false := decide_eq_false hw
    have HB4 : Hid (bst Wd b (lv Wd P (j :: r) pre) = bst Wd b (if p.h ≤ Wd then lv Wd P r (pre ++ [itmT j true p]) else [])) := hide (by rw [unhide HLV, if_neg hw, List.nil_append])
    clear hold
    go_wp2_with fail
    refine Go.Code.wp_mono (Only.to (fun _ _ h => h)) (wy9 (Wd := Wd) (ph := p.h) (hide ((unhide HS2).s.cell (m := 0) rfl)) (hide ((unhide HV2).cell (m := 1) rfl)) ?_)
    intro W5 hb5
    have HS5 := hide ((unhide HS2).on hb5)
    have HV5 := hide ((unhide HV2).bel hb5)
    have HF5 := hide ((unhide HF2).trans (Fr2.bel hb5))
    clear hb5 HS2 HV2 HF2
    have tl5 := (unhide HS5).tl
    obtain ⟨oldc, hold⟩ : ∃ x, T[k]? = some x := ⟨_, List.getElem?_eq_getElem (by omega)⟩
    by_cases hh : p.h ≤ Wd
    · have t2 : decide (p.h ≤ Wd) = true := decide_eq_true hh
      have d3 := (unhide HS5).s.cell (m := 3) rfl
      have dT := (unhide HS5).tur.cell (m := k) (x := .bool oldc) (by rw [List.getElem?_map, hold]; rfl)
      have dF := (unhide HS5).tur.frozen
      obtain ⟨_, hC⟩ := unhide HSEC T b ve hi W5 (unhide HS5) (unhide HV5) (unhide HF5) rfl hh
      have HC := hide (hC ((unhide HS5).turn k true))
      rw [if_pos hh] at HB4
      clear hC hold
      go_wp2_with fail
      refine (unhide HC).mono ?_
      rintro e W6 ⟨rfl, hq⟩
      have HQ6 := hide hq
      clear hq
      go_wp2_with fail
      refine bodyPost_end (v := .tuple #[]) (by simp [results, Try.results51, go_sem]) rfl ⟨rfl, ?_⟩
      rw [unhide HB4]
      exact unhide HQ6
    · have t2 : decide (p.h ≤ Wd) = false := decide_eq_false hh
      rw [if_neg hh] at HB4
      clear hold
      go_wp2_with fail
      refine bodyPost_end (v := .tuple #[]) (by simp [results, Try.results51, go_sem]) rfl ⟨rfl, ?_⟩
      rw [unhide HB4]
      exact ⟨⟨T, ve, hi, unhide HS5, rfl⟩, unhide HF5⟩
theorem ways_any (w0 : World) (Wd : Int) (P : List Pl) (up : Option Addr) (pp ppo cp sB tB : Nat) (od : List Nat) (vo : Value) (n : Nat) (hn : n ≤ 900) (hup : Pls w0 up pp ppo P) (hW : 1 ≤ Wd ∧ Wd ≤ 1000) (hPn : P.length = n) (hpl : ∀ p ∈ P, (1 ≤ p.w ∧ p.w ≤ 1000) ∧ 1 ≤ p.h ∧ p.h ≤ 1000) (hol : od.length = n) (hok : ∀ k ∈ od, k < n) :
    ∀ (r : List Nat) (k : Nat) (pre : List Itm) (T : List Bool) (b : Option (List Ld)) (ve : Value) (hi : Int) (W : World), od.drop k = r → k + r.length = n → pre.length = k → PlanOk Wd P (ints od) T pre → StS w0 W Wd P up n n cp sB tB od T b vo ve hi →
      Calls Try.prog 51 #[.pointer (some ⟨sB, 0, none⟩), .int .i64 (k : Int)] W fun e W' => e = .returned (.tuple #[]) ∧ WyQ w0 W W' Wd P up n cp sB tB od T (bst Wd b (lv Wd P r pre)) vo k := by
  intro r
  induction r with
  | nil =>
    intro k pre T b ve hi W hdr hkr hpre hplan hst
    obtain rfl : k = n := by simpa using hkr
    exact ways_leaf w0 Wd P up pp ppo cp sB tB od vo k hn hup hW pre T b ve hi W hpre hplan hst
  | cons j r ih =>
    intro k pre T b ve hi W hdr hkr hpre hplan hst
    have hk : k < n := by simp at hkr; omega
    have hod : od[k]? = some j := by
      have : (od.drop k)[0]? = some j := by rw [hdr]; rfl
      simpa using this
    have hj := hok j (List.mem_of_getElem? hod)
    obtain ⟨p, hp⟩ := get_some hPn hj
    refine ways_step w0 Wd P up pp ppo cp sB tB od vo n hn hup hW j p r k pre T b ve hi W hk hod hp hj (hpl p (List.mem_of_getElem? hp)) hpre hplan hst ?_
    intro pre' T' b' ve' hi' W' h1 h2 h3
    refine ih (k + 1) pre' T' b' ve' hi' W' ?_ (by simp at hkr; omega) h1 h2 h3
    rw [← List.drop_drop, hdr]
    rfl
end Go.Proofs.Ytoidhlackoigkaa
