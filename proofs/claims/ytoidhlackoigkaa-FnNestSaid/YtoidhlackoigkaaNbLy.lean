/-
  The program's search through all ways of turning, cut off where it can be no better.
-/
import Derived.Test.YtoidhlackoigkaaLy47
import Derived.Test.YtoidhlackoigkaaNbSt
namespace Go.Proofs.Ytoidhlackoigkaa
open Go.ChangeShapes Go.WideShapes Go.ChangeAt Go.RowKit
set_option linter.unusedVariables false
set_option linter.unusedSimpArgs false

/-- a nest in memory -/
structure NeP (W : World) (g5 : Nat) (u : Option Addr) (k c bb bo : Nat) (L : List Ld) : Prop where
  ld : Lds W u bb bo L
  len : L.length = k
  near : Near L
  ca : k ≤ c
  u0 : u = none → c = 0
  u1 : k = 0 → u = none
  ne : L ≠ [] → bb ≠ g5
theorem NeP.fr {W W' : World} {g5 : Nat} {u : Option Addr} {k c bb bo : Nat} {L : List Ld} (h : NeP W g5 u k c bb bo L) (hf : Fr2 g5 g5 W W') : NeP W' g5 u k c bb bo L :=
  ⟨fun h0 => ⟨(h.ld h0).1, Nat.lt_of_lt_of_le (h.ld h0).2.1 hf.size, fun j l hj q v hv => (World.cell?_of_block (w := W) (a := ⟨bb, _, none⟩) (hf.block bb (h.ld h0).2.1 (h.ne h0) (h.ne h0))).trans ((h.ld h0).2.2 j l hj q v hv)⟩, h.len, h.near, h.ca, h.u0, h.u1, h.ne⟩
/-- the best so far, as the program has it -/
def PsB (W : World) (g5 : Nat) (Wd : Int) (b : Option (List Ld)) : Prop := match b with
  | none => vb W g5 86 [.pointer none]
  | some B => ∃ nb u c bb bo, vb W g5 86 [.pointer (some ⟨nb, 0, none⟩)] ∧ vb W nb 47 [.int .i64 Wd, .slice u B.length c] ∧ nb ≠ g5 ∧ NeP W g5 u B.length c bb bo B ∧ B.length ≤ 900
theorem PsB.bel {W W' : World} {g5 : Nat} {Wd : Int} {b : Option (List Ld)} (h : PsB W g5 Wd b) (hb : Below W.heap.size W W') : PsB W' g5 Wd b := by
  cases b with
  | none => exact vb.bel h hb
  | some B =>
    obtain ⟨nb, u, c, bb, bo, h1, h2, h3, h4, h5⟩ := h
    exact ⟨nb, u, c, bb, bo, h1.bel hb, h2.bel hb, h3, h4.fr (Fr2.bel hb), h5⟩
theorem PsB.lt {W : World} {g5 : Nat} {Wd : Int} {b : Option (List Ld)} (h : PsB W g5 Wd b) : g5 < W.heap.size := by
  cases b with
  | none => exact vb.lt h
  | some B => obtain ⟨nb, u, c, bb, bo, h1, _⟩ := h; exact h1.lt
theorem PsB.at {W : World} {g5 : Nat} {Wd : Int} {b : Option (List Ld)} (h : PsB W g5 Wd b) : ∃ q, vb W g5 86 [.pointer q] := by
  cases b with
  | none => exact ⟨_, h⟩
  | some B => obtain ⟨nb, u, c, bb, bo, h1, _⟩ := h; exact ⟨_, h1⟩
def fnV (g2 g3 g5 g6 : Nat) : Value := .func (.func 47) #[] #[.pointer (some ⟨g5, 0, none⟩), .pointer (some ⟨g3, 0, none⟩), .pointer (some ⟨g2, 0, none⟩), .pointer (some ⟨g6, 0, none⟩)]
/-- what the closures share -/
structure Env (W : World) (Wd : Int) (P : List Pl) (up : Option Addr) (n cp pp ppo g2 g3 g5 g6 : Nat) : Prop where
  w2 : vb W g2 3 [.int .i64 Wd]
  w3 : vb W g3 23 [.slice up n cp]
  w6 : vb W g6 87 [fnV g2 g3 g5 g6]
  n2 : g2 ≠ g5
  n3 : g3 ≠ g5
  n6 : g6 ≠ g5
  pl : Pls W up pp ppo P
  pg : P ≠ [] → pp ≠ g5
theorem Env.fr {W W' : World} {Wd : Int} {P : List Pl} {up : Option Addr} {n cp pp ppo g2 g3 g5 g6 : Nat} (h : Env W Wd P up n cp pp ppo g2 g3 g5 g6) (hf : Fr2 g5 g5 W W') : Env W' Wd P up n cp pp ppo g2 g3 g5 g6 :=
  ⟨hf.vb h.w2 h.n2 h.n2, hf.vb h.w3 h.n3 h.n3, hf.vb h.w6 h.n6 h.n6, h.n2, h.n3, h.n6, fun h0 => ⟨(h.pl h0).1, Nat.lt_of_lt_of_le (h.pl h0).2.1 hf.size, fun j x hj => (World.cell?_of_block (w := W) (a := ⟨pp, _, none⟩) (hf.block pp (h.pl h0).2.1 (h.pg h0) (h.pg h0))).trans ((h.pl h0).2.2 j x hj)⟩, h.pg⟩
/-- what is left to be laid -/
structure Lef (W : World) (g5 : Nat) (ul : Option Addr) (ll lc lb lo : Nat) (r : List Nat) : Prop where
  it : Its W ul lb lo (ints r)
  len : r.length = ll
  ca : ll ≤ lc
  ne : r ≠ [] → lb ≠ g5
theorem Lef.fr {W W' : World} {g5 : Nat} {ul : Option Addr} {ll lc lb lo : Nat} {r : List Nat} (h : Lef W g5 ul ll lc lb lo r) (hf : Fr2 g5 g5 W W') : Lef W' g5 ul ll lc lb lo r := by
  have hne : ints r ≠ [] → r ≠ [] := fun h0 e => h0 (by rw [e]; rfl)
  exact ⟨fun h0 => ⟨(h.it h0).1, Nat.lt_of_lt_of_le (h.it h0).2.1 hf.size, fun j x hj => (World.cell?_of_block (w := W) (a := ⟨lb, _, none⟩) (hf.block lb (h.it h0).2.1 (h.ne (hne h0)) (h.ne (hne h0)))).trans ((h.it h0).2.2 j x hj)⟩, h.len, h.ca, h.ne⟩
theorem Lef.tail {W : World} {g5 : Nat} {ul : Option Addr} {ll lc lb lo j : Nat} {r : List Nat} (h : Lef W g5 ul ll lc lb lo (j :: r)) : Lef W g5 (some ⟨lb, lo + 1, none⟩) (ll - 1) (lc - 1) lb (lo + 1) r := by
  have h1 := h.len
  simp at h1
  refine ⟨fun _ => ⟨rfl, (h.it (by simp [ints])).2.1, fun i x hi => ?_⟩, by omega, by have := h.ca; omega, fun _ => h.ne (by simp)⟩
  have := (h.it (by simp [ints])).2.2 (i + 1) x (by simpa [ints] using hi)
  rw [show lo + 1 + i = lo + (i + 1) by omega]
  exact this
theorem Lef.none0 {W : World} {g5 : Nat} (ul : Option Addr) (lb lo : Nat) : Lef W g5 ul 0 0 lb lo [] := ⟨fun h => absurd rfl h, rfl, Nat.le_refl _, fun h => absurd rfl h⟩
/-- what layOn leaves behind -/
def LyQ (W W' : World) (g5 : Nat) (Wd : Int) (b' : Option (List Ld)) : Prop := PsB W' g5 Wd b' ∧ Fr2 g5 g5 W W'
theorem nep_new {V X : World} {g5 : Nat} {Wd : Int} {L : List Ld} {k c4 g4 : Nat} {j : Int} {t : Bool} {x y pw ph : Int} (hn : NewL V X g4 k c4 (L ++ [⟨j, t, ⟨x, y, twd t pw ph, twd t ph pw⟩⟩])) (hlow : Low Wd (rcs L) (twd t pw ph) (twd t ph pw) x y) (hL : L.length = k) (hnear : Near L) (hW : Wd ≤ 1000) (hk : k ≤ 900) (hp : (1 ≤ pw ∧ pw ≤ 1000) ∧ 1 ≤ ph ∧ ph ≤ 1000) (hg : g5 < V.heap.size) : NeP X g5 (some ⟨g4, 0, none⟩) (k + 1) c4 g4 0 (L ++ [⟨j, t, ⟨x, y, twd t pw ph, twd t ph pw⟩⟩]) := by
  have hge := hn.ge
  exact ⟨lds_new hn.lt hn.cl, by simp [hL], near_snoc hnear hW (by omega) hlow ⟨twd_bd hp, twd_bd ⟨hp.2, hp.1⟩⟩, hn.ca, fun e => (by cases e), fun e => (by omega), fun _ => by omega⟩
set_option maxHeartbeats 16000000 in
set_option maxRecDepth 100000 in
theorem lay_leaf (Wd : Int) (P : List Pl) (up : Option Addr) (n cp pp ppo g2 g3 g5 g6 : Nat) (hW : 1 ≤ Wd ∧ Wd ≤ 1000) (hPn : P.length = n) (hpl : ∀ p ∈ P, (1 ≤ p.w ∧ p.w ≤ 1000) ∧ 1 ≤ p.h ∧ p.h ≤ 1000) (pre : List Itm) (L : List Ld) (b : Option (List Ld)) (u : Option Addr) (k c bb bo : Nat) (ul : Option Addr) (lc lb lo : Nat) (W : World) (hkl : k + 0 ≤ 900) (hns : Nst Wd L) (hfo : Fol pre L) (hpr : ∀ q ∈ pre, q.w ≤ Wd) (hne : NeP W g5 u k c bb bo L) (hlf : Lef W g5 ul 0 lc lb lo []) (henv : Env W Wd P up n cp pp ppo g2 g3 g5 g6) (hps : PsB W g5 Wd b) :
    Calls Try.prog 47 #[.agg #[.int .i64 Wd, .slice u k c], .slice ul 0 lc, .pointer (some ⟨g5, 0, none⟩), .pointer (some ⟨g3, 0, none⟩), .pointer (some ⟨g2, 0, none⟩), .pointer (some ⟨g6, 0, none⟩)] W fun e W' => e = .returned (.tuple #[]) ∧ LyQ W W' g5 Wd (bst Wd b (lv Wd P [] pre)) := by
  have HNE := hide hne
  have HPS := hide hps
  have HLF := hide hlf
  have HENV := hide henv
  have HG := hide (vb_new W 47 [.int .i64 Wd, .slice u k c] W.heap.size rfl)
  have HB1 := hide (ba (Below.refl W.heap.size W) (.cells #[.int .i64 Wd, .slice u k c] 47))
  have g5l := hps.lt
  have e0 := nestOf_eq hns hfo
  have HU0 := hide e0
  have HNS := hide hns
  have HFO := hide hfo
  have HPR := hide hpr
  cases b with
  | none =>
    have HQ : Hid (vb W g5 86 [.pointer none]) := hide hps
    have HUP : Hid (bst Wd none (lv Wd P [] pre) = some L) := hide (by show upd Wd none pre = _; unfold upd; rw [e0])
    clear hne hps hlf henv hns hfo hpr e0
    go_enter Try.func47, Try.ntmps47
    go_wp2_with fail
    refine Go.Code.wp_mono (Only.to (fun _ _ h => h)) (ly1n (hide (((unhide HQ).bel (unhide HB1)).cell (m := 0) rfl)) ?_)
    intro W1 hb1
    have v5 := ((unhide HQ).bel (unhide HB1)).bel hb1
    have HG1 := hide ((unhide HG).bel hb1)
    have HX1 := hide (bc (unhide HB1) hb1)
    have HF1 := hide (Fr2.bel (a := g5) (b := g5) (unhide HX1))
    have c5 := v5.cell (m := 0) rfl
    have f5 := v5.frozen
    have HV5 := hide v5
    clear hb1 v5
    go_wp2_with fail
    refine bodyPost_ret (v := .tuple #[]) (by simp [results, Try.results47, go_sem]) rfl ⟨rfl, ?_⟩
    rw [unhide HUP]
    refine ⟨⟨W.heap.size, u, c, bb, bo, ?_, ?_, by omega, ?_, ?_⟩, (unhide HF1).set1 _ _⟩
    · exact (unhide HV5).set 0 _
    · rw [(unhide HNE).len]; exact (unhide HG1).ne (by omega)
    · rw [(unhide HNE).len]; exact ((unhide HNE).fr (unhide HF1)).fr ((Fr2.refl _ _ _).set1 _ _)
    · rw [(unhide HNE).len]; omega
  | some B =>
    obtain ⟨nb, ub, cb, b2, b2o, hq5, hqn, hnn, hnB, hB9⟩ := hps
    have HQ := hide hq5
    have HQN := hide hqn
    have HHA := hide (fun X (hX : Below W.heap.size W X) => heP_any Wd u bb bo k c L X hne.len (by omega) (hne.ld.bel hX) hne.near)
    have HHB := hide (fun X (hX : Below W.heap.size W X) => heP_any Wd ub b2 b2o B.length cb B X rfl hB9 (hnB.ld.bel hX) hnB.near)
    by_cases hcut : hgtOf B ≤ hgtOf L
    · have HPR2 := hide (prune (P := P) [] pre hpr (B := B) (by rw [e0]; exact hcut))
      generalize hgtOf L = ha at *
      generalize hgtOf B = hb at *
      have tc : decide (hb ≤ ha) = true := decide_eq_true hcut
      clear hne hlf henv hns hfo hpr e0 hq5 hqn hnB
      go_enter Try.func47, Try.ntmps47
      go_wp2_with fail
      refine Go.Code.wp_mono (Only.to (fun _ _ h => h)) (ly1s (ha := ha) (hb := hb) (hide (((unhide HQ).bel (unhide HB1)).cell (m := 0) rfl)) (hide ((unhide HG).cell (m := 0) rfl)) (hide ((unhide HG).cell (m := 1) rfl)) (hide (((unhide HQN).bel (unhide HB1)).cell (m := 0) rfl)) (hide (((unhide HQN).bel (unhide HB1)).cell (m := 1) rfl)) (hide (fun X hX => unhide HHA X (bc (unhide HB1) hX))) (hide (fun X hX => unhide HHB X (bc (unhide HB1) hX))) ?_)
      intro W1 hb1
      have HX1 := hide (bc (unhide HB1) hb1)
      clear hb1
      rw [tc]
      go_wp2_with fail
      refine bodyPost_ret (v := .tuple #[]) (by simp [results, Try.results47, go_sem]) rfl ⟨rfl, ?_⟩
      rw [unhide HPR2]
      exact ⟨(unhide HPS).bel (unhide HX1), Fr2.bel (unhide HX1)⟩
    · have HUP : Hid (bst Wd (some B) (lv Wd P [] pre) = some L) := hide (by show upd Wd (some B) pre = _; unfold upd; simp only; rw [e0, if_pos (by omega)])
      generalize hgtOf L = ha at *
      generalize hgtOf B = hb at *
      have tc : decide (hb ≤ ha) = false := decide_eq_false hcut
      clear hne hlf henv hns hfo hpr e0 hq5 hqn hnB
      go_enter Try.func47, Try.ntmps47
      go_wp2_with fail
      refine Go.Code.wp_mono (Only.to (fun _ _ h => h)) (ly1s (ha := ha) (hb := hb) (hide (((unhide HQ).bel (unhide HB1)).cell (m := 0) rfl)) (hide ((unhide HG).cell (m := 0) rfl)) (hide ((unhide HG).cell (m := 1) rfl)) (hide (((unhide HQN).bel (unhide HB1)).cell (m := 0) rfl)) (hide (((unhide HQN).bel (unhide HB1)).cell (m := 1) rfl)) (hide (fun X hX => unhide HHA X (bc (unhide HB1) hX))) (hide (fun X hX => unhide HHB X (bc (unhide HB1) hX))) ?_)
      intro W1 hb1
      have v5 := ((unhide HQ).bel (unhide HB1)).bel hb1
      have HG1 := hide ((unhide HG).bel hb1)
      have HX1 := hide (bc (unhide HB1) hb1)
      have HF1 := hide (Fr2.bel (a := g5) (b := g5) (unhide HX1))
      have c5 := v5.cell (m := 0) rfl
      have f5 := v5.frozen
      have HV5 := hide v5
      clear hb1 v5 HQ HQN HHA HHB
      rw [tc]
      go_wp2_with fail
      refine bodyPost_ret (v := .tuple #[]) (by simp [results, Try.results47, go_sem]) rfl ⟨rfl, ?_⟩
      rw [unhide HUP]
      refine ⟨⟨W.heap.size, u, c, bb, bo, ?_, ?_, by omega, ?_, ?_⟩, (unhide HF1).set1 _ _⟩
      · exact (unhide HV5).set 0 _
      · rw [(unhide HNE).len]; exact (unhide HG1).ne (by omega)
      · rw [(unhide HNE).len]; exact ((unhide HNE).fr (unhide HF1)).fr ((Fr2.refl _ _ _).set1 _ _)
      · rw [(unhide HNE).len]; omega
set_option maxHeartbeats 16000000 in
set_option maxRecDepth 100000 in
theorem lay_step1 (Wd : Int) (P : List Pl) (up : Option Addr) (n cp pp ppo g2 g3 g5 g6 : Nat) (hW : 1 ≤ Wd ∧ Wd ≤ 1000) (hPn : P.length = n) (hpl : ∀ p ∈ P, (1 ≤ p.w ∧ p.w ≤ 1000) ∧ 1 ≤ p.h ∧ p.h ≤ 1000) (j : Nat) (p : Pl) (r : List Nat) (pre : List Itm) (L : List Ld) (b : Option (List Ld)) (u : Option Addr) (k c bb bo : Nat) (ul : Option Addr) (ll lc lb lo : Nat) (W : World) (hkl : k + ll ≤ 900) (hl1 : 1 ≤ ll) (hlc1 : ll ≤ lc) (hlc : lc = 1) (hpj : P[j]? = some p) (hjn : j < n) (hns : Nst Wd L) (hfo : Fol pre L) (hpr : ∀ q ∈ pre, q.w ≤ Wd) (hne : NeP W g5 u k c bb bo L) (hlf : Lef W g5 ul ll lc lb lo (j :: r)) (henv : Env W Wd P up n cp pp ppo g2 g3 g5 g6) (hps : PsB W g5 Wd b)
    (STEP : ∀ (t : Bool) (V : World) (b2 : Option (List Ld)), NeP V g5 u k c bb bo L → Lef V g5 ul ll lc lb lo (j :: r) → Env V Wd P up n cp pp ppo g2 g3 g5 g6 → PsB V g5 Wd b2 → twd t p.w p.h ≤ Wd → ∀ X g4 c4 x y, Below V.heap.size V X → NewL V X g4 k c4 (L ++ [⟨(j : Int), t, ⟨x, y, twd t p.w p.h, twd t p.h p.w⟩⟩]) → Low Wd (rcs L) (twd t p.w p.h) (twd t p.h p.w) x y → ∀ cut, (cut = .slice (some ⟨lb, lo + 1, none⟩) (ll - 1) (lc - 1) ∨ (ll = 1 ∧ ∃ a, cut = .slice a 0 0)) →
      Calls Try.prog 47 #[.agg #[.int .i64 Wd, .slice (some ⟨g4, 0, none⟩) (k + 1) c4], cut, .pointer (some ⟨g5, 0, none⟩), .pointer (some ⟨g3, 0, none⟩), .pointer (some ⟨g2, 0, none⟩), .pointer (some ⟨g6, 0, none⟩)] X fun e w' => e = .returned (.tuple #[]) ∧ LyQ V w' g5 Wd (bst Wd b2 (lv Wd P r (pre ++ [itmT j t p])))) :
    Calls Try.prog 47 #[.agg #[.int .i64 Wd, .slice u k c], .slice ul ll lc, .pointer (some ⟨g5, 0, none⟩), .pointer (some ⟨g3, 0, none⟩), .pointer (some ⟨g2, 0, none⟩), .pointer (some ⟨g6, 0, none⟩)] W fun e W' => e = .returned (.tuple #[]) ∧ LyQ W W' g5 Wd (bst Wd b (lv Wd P (j :: r) pre)) := by
  have hpb := hpl p (List.mem_of_getElem? hpj)
  have HLV := hide (lv_cons (Wd := Wd) hpj r pre)
  have HWITH := hide (fun (t : Bool) (V : World) (hv : NeP V g5 u k c bb bo L) (hft : twd t p.w p.h ≤ Wd) X (hX : Below V.heap.size V X) => wiP_any Wd (j : Int) p.w p.h t u bb bo k c L X hv.len (by omega) (hv.ld.bel hX) hv.near.nr hv.near.hg hv.ca hv.u0 hv.u1 hW hpb hft)
  obtain rfl : ll = 1 := by omega
  subst hlc
  have HSTEP := hide STEP
  clear STEP
  have l0 : ((1 : Int) == 0) = false := by rfl
  have n0 : (0 : Int) ≤ (n : Int) := Int.natCast_nonneg _
  have HNE := hide hne
  have HPS := hide hps
  have HLF := hide hlf
  have HENV := hide henv
  have HG := hide (vb_new W 47 [.int .i64 Wd, .slice u k c] W.heap.size rfl)
  have HB1 := hide (ba (Below.refl W.heap.size W) (.cells #[.int .i64 Wd, .slice u k c] 47))
  have g5l := hps.lt
  have e0 := nestOf_eq hns hfo
  have HU0 := hide e0
  have HNS := hide hns
  have HFO := hide hfo
  have HPR := hide hpr
  cases b with
  | none =>
    have HQ : Hid (vb W g5 86 [.pointer none]) := hide hps
    skip
    clear hne hps hlf henv hns hfo hpr e0
    go_enter Try.func47, Try.ntmps47
    go_wp2_with fail
    refine Go.Code.wp_mono (Only.to (fun _ _ h => h)) (ly1n (hide (((unhide HQ).bel (unhide HB1)).cell (m := 0) rfl)) ?_)
    intro W1 hb1
    have v5 := ((unhide HQ).bel (unhide HB1)).bel hb1
    have HG1 := hide ((unhide HG).bel hb1)
    have HX1 := hide (bc (unhide HB1) hb1)
    have HF1 := hide (Fr2.bel (a := g5) (b := g5) (unhide HX1))
    have c5 := v5.cell (m := 0) rfl
    have f5 := v5.frozen
    have HV5 := hide v5
    clear hb1 v5
    obtain ⟨rfl, lbl, lc0⟩ := (unhide HLF).it.at (i := 0) (x := (j : Int)) rfl
    obtain ⟨rfl, ppl, p0, p1⟩ := (unhide HENV).pl.at hpj
    have HN1 := hide ((unhide HNE).fr (unhide HF1))
    have HL1 := hide ((unhide HLF).fr (unhide HF1))
    have HE1 := hide ((unhide HENV).fr (unhide HF1))
    have HP1 := hide ((unhide HPS).bel (unhide HX1))
    obtain ⟨_, lbl1, lc1⟩ := (unhide HL1).it.at (i := 0) (x := (j : Int)) rfl
    obtain ⟨_, ppl1, p01, p11⟩ := (unhide HE1).pl.at hpj
    rw [Nat.add_zero] at lc1
    clear lc0 p0 p1 lbl ppl HG
    go_wp2_with fail
    refine Go.Code.wp_mono (Only.to (fun _ _ h => h)) (ly4 (pw := p.w) (ph := p.h) (hide lc1) (hide ((unhide HE1).w3.cell (m := 0) rfl)) (hide p01) (hide p11) (hide (show 0 < 1 by omega)) (hide (show 0 < 1 by omega)) (hide hjn) ?_)
    intro gp W2 hb2 hv2 hg2
    have gp5 : gp ≠ g5 := by have := (unhide HP1).lt; omega
    have HF2 := hide ((unhide HF1).trans (Fr2.bel hb2))
    have HN2 := hide ((unhide HN1).fr (Fr2.bel hb2))
    have HL2 := hide ((unhide HL1).fr (Fr2.bel hb2))
    have HE2 := hide ((unhide HE1).fr (Fr2.bel hb2))
    have HP2 := hide ((unhide HP1).bel hb2)
    have HG2 := hide ((unhide HG1).bel hb2)
    have HV2 := hide hv2
    have gw5 : W.heap.size ≠ g5 := by omega
    clear hb2 hv2 hg2 lc1 p01 p11 lbl1 ppl1 HN1 HL1 HE1 HP1 HG1 HV5 c5 f5 HF1 HX1
    have w0 := (unhide HV2).cell (m := 0) rfl
    have w1 := (unhide HV2).cell (m := 1) rfl
    have ww := (unhide HE2).w2.cell (m := 0) rfl
    by_cases hw : p.w ≤ Wd
    · have t1 : decide (p.w ≤ Wd) = true := decide_eq_true hw
      have HBE : Hid (bst Wd none (lv Wd P (j :: r) pre) = bst Wd (bst Wd none (lv Wd P r (pre ++ [itmT j false p]))) (if p.h ≤ Wd then lv Wd P r (pre ++ [itmT j true p]) else [])) := hide (by rw [unhide HLV, if_pos hw, bst_app])
      have HZ := hide (unhide HSTEP false W2 none (unhide HN2) (unhide HL2) (unhide HE2) (unhide HP2) hw)
      have HWI := hide (unhide HWITH false W2 (unhide HN2) hw)
      go_wp2_with fail
      refine Go.Code.wp_mono (Only.to (fun _ _ h => h)) (ly6a (L := L) (Z := fun X => LyQ W2 X g5 Wd (bst Wd none (lv Wd P r (pre ++ [itmT j false p])))) (ln := 0) (lc := 0) (hide ((unhide HE2).w6.cell (m := 0) rfl)) (hide ((unhide HG2).cell (m := 0) rfl)) (hide ((unhide HG2).cell (m := 1) rfl)) (hide w0) (hide w1) HWI (hide (fun X g4 c4 x y h1 h2 h3 => unhide HZ X g4 c4 x y h1 h2 h3 _ (Or.inr ⟨by first | rfl | trivial, _, rfl⟩))) ?_)
      intro g4' c4' x' y' X5 hz5
      have HP5 := hide hz5.1
      have HF5 := hide ((unhide HF2).trans hz5.2)
      have HN5 := hide ((unhide HN2).fr hz5.2)
      have HL5 := hide ((unhide HL2).fr hz5.2)
      have HE5 := hide ((unhide HE2).fr hz5.2)
      have HG5 := hide (hz5.2.vb (unhide HG2) gw5 gw5)
      have HV5p := hide (hz5.2.vb (unhide HV2) gp5 gp5)
      have w0 := (unhide HV5p).cell (m := 0) rfl
      have w1 := (unhide HV5p).cell (m := 1) rfl
      have ww := (unhide HE5).w2.cell (m := 0) rfl
      clear hz5 HZ HWI HN2 HL2 HE2 HP2 HG2 HV2 HF2
      generalize bst Wd none (lv Wd P r (pre ++ [itmT j false p])) = b5 at *
      by_cases hh : p.h ≤ Wd
      · have t2 : decide (p.h ≤ Wd) = true := decide_eq_true hh
        rw [if_pos hh] at HBE
        have HZ := hide (unhide HSTEP true X5 b5 (unhide HN5) (unhide HL5) (unhide HE5) (unhide HP5) hh)
        have HWI := hide (unhide HWITH true X5 (unhide HN5) hh)
        go_wp2_with fail
        refine Go.Code.wp_mono (Only.to (fun _ _ h => h)) (ly8a (L := L) (Z := fun X => LyQ X5 X g5 Wd (bst Wd b5 (lv Wd P r (pre ++ [itmT j true p])))) (ln := 0) (lc := 0) (hide ((unhide HE5).w6.cell (m := 0) rfl)) (hide ((unhide HG5).cell (m := 0) rfl)) (hide ((unhide HG5).cell (m := 1) rfl)) (hide ((unhide HV5p).cell (m := 0) rfl)) (hide ((unhide HV5p).cell (m := 1) rfl)) HWI (hide (fun X g4 c4 x y h1 h2 h3 => unhide HZ X g4 c4 x y h1 h2 h3 _ (Or.inr ⟨by first | rfl | trivial, _, rfl⟩))) ?_)
        intro g4 c4 x y W9 hz
        have HQ9 := hide hz
        clear hz
        go_wp2_with fail
        refine bodyPost_end (v := .tuple #[]) (by simp [results, Try.results47, go_sem]) rfl ⟨rfl, ?_⟩
        rw [unhide HBE]
        exact ⟨(unhide HQ9).1, (unhide HF5).trans (unhide HQ9).2⟩
      · have t2 : decide (p.h ≤ Wd) = false := decide_eq_false hh
        rw [if_neg hh] at HBE
        go_wp2_with fail
        refine bodyPost_end (v := .tuple #[]) (by simp [results, Try.results47, go_sem]) rfl ⟨rfl, ?_⟩
        rw [unhide HBE]
        exact ⟨unhide HP5, unhide HF5⟩
    · have t1 : decide (p.w ≤ Wd) = false := decide_eq_false hw
      have HBE : Hid (bst Wd none (lv Wd P (j :: r) pre) = bst Wd none (if p.h ≤ Wd then lv Wd P r (pre ++ [itmT j true p]) else [])) := hide (by rw [unhide HLV, if_neg hw, List.nil_append])
      have HP5 := HP2
      have HF5 := HF2
      have HN5 := HN2
      have HL5 := HL2
      have HE5 := HE2
      have HG5 := HG2
      have HV5p := HV2
      by_cases hh : p.h ≤ Wd
      · have t2 : decide (p.h ≤ Wd) = true := decide_eq_true hh
        rw [if_pos hh] at HBE
        have HZ := hide (unhide HSTEP true W2 none (unhide HN5) (unhide HL5) (unhide HE5) (unhide HP5) hh)
        have HWI := hide (unhide HWITH true W2 (unhide HN5) hh)
        go_wp2_with fail
        refine Go.Code.wp_mono (Only.to (fun _ _ h => h)) (ly8a (L := L) (Z := fun X => LyQ W2 X g5 Wd (bst Wd none (lv Wd P r (pre ++ [itmT j true p])))) (ln := 0) (lc := 0) (hide ((unhide HE5).w6.cell (m := 0) rfl)) (hide ((unhide HG5).cell (m := 0) rfl)) (hide ((unhide HG5).cell (m := 1) rfl)) (hide ((unhide HV5p).cell (m := 0) rfl)) (hide ((unhide HV5p).cell (m := 1) rfl)) HWI (hide (fun X g4 c4 x y h1 h2 h3 => unhide HZ X g4 c4 x y h1 h2 h3 _ (Or.inr ⟨by first | rfl | trivial, _, rfl⟩))) ?_)
        intro g4 c4 x y W9 hz
        have HQ9 := hide hz
        clear hz
        go_wp2_with fail
        refine bodyPost_end (v := .tuple #[]) (by simp [results, Try.results47, go_sem]) rfl ⟨rfl, ?_⟩
        rw [unhide HBE]
        exact ⟨(unhide HQ9).1, (unhide HF5).trans (unhide HQ9).2⟩
      · have t2 : decide (p.h ≤ Wd) = false := decide_eq_false hh
        rw [if_neg hh] at HBE
        go_wp2_with fail
        refine bodyPost_end (v := .tuple #[]) (by simp [results, Try.results47, go_sem]) rfl ⟨rfl, ?_⟩
        rw [unhide HBE]
        exact ⟨unhide HP5, unhide HF5⟩

  | some B =>
    obtain ⟨nb, ub, cb, b2, b2o, hq5, hqn, hnn, hnB, hB9⟩ := hps
    have HQ := hide hq5
    have HQN := hide hqn
    have HHA := hide (fun X (hX : Below W.heap.size W X) => heP_any Wd u bb bo k c L X hne.len (by omega) (hne.ld.bel hX) hne.near)
    have HHB := hide (fun X (hX : Below W.heap.size W X) => heP_any Wd ub b2 b2o B.length cb B X rfl hB9 (hnB.ld.bel hX) hnB.near)
    by_cases hcut : hgtOf B ≤ hgtOf L
    · have HPR2 := hide (prune (P := P) (j :: r) pre hpr (B := B) (by rw [e0]; exact hcut))
      generalize hgtOf L = ha at *
      generalize hgtOf B = hb at *
      have tc : decide (hb ≤ ha) = true := decide_eq_true hcut
      clear hne hlf henv hns hfo hpr e0 hq5 hqn hnB
      go_enter Try.func47, Try.ntmps47
      go_wp2_with fail
      refine Go.Code.wp_mono (Only.to (fun _ _ h => h)) (ly1s (ha := ha) (hb := hb) (hide (((unhide HQ).bel (unhide HB1)).cell (m := 0) rfl)) (hide ((unhide HG).cell (m := 0) rfl)) (hide ((unhide HG).cell (m := 1) rfl)) (hide (((unhide HQN).bel (unhide HB1)).cell (m := 0) rfl)) (hide (((unhide HQN).bel (unhide HB1)).cell (m := 1) rfl)) (hide (fun X hX => unhide HHA X (bc (unhide HB1) hX))) (hide (fun X hX => unhide HHB X (bc (unhide HB1) hX))) ?_)
      intro W1 hb1
      have HX1 := hide (bc (unhide HB1) hb1)
      clear hb1
      rw [tc]
      go_wp2_with fail
      refine bodyPost_ret (v := .tuple #[]) (by simp [results, Try.results47, go_sem]) rfl ⟨rfl, ?_⟩
      rw [unhide HPR2]
      exact ⟨(unhide HPS).bel (unhide HX1), Fr2.bel (unhide HX1)⟩
    · skip
      generalize hgtOf L = ha at *
      generalize hgtOf B = hb at *
      have tc : decide (hb ≤ ha) = false := decide_eq_false hcut
      clear hne hlf henv hns hfo hpr e0 hq5 hqn hnB
      go_enter Try.func47, Try.ntmps47
      go_wp2_with fail
      refine Go.Code.wp_mono (Only.to (fun _ _ h => h)) (ly1s (ha := ha) (hb := hb) (hide (((unhide HQ).bel (unhide HB1)).cell (m := 0) rfl)) (hide ((unhide HG).cell (m := 0) rfl)) (hide ((unhide HG).cell (m := 1) rfl)) (hide (((unhide HQN).bel (unhide HB1)).cell (m := 0) rfl)) (hide (((unhide HQN).bel (unhide HB1)).cell (m := 1) rfl)) (hide (fun X hX => unhide HHA X (bc (unhide HB1) hX))) (hide (fun X hX => unhide HHB X (bc (unhide HB1) hX))) ?_)
      intro W1 hb1
      have v5 := ((unhide HQ).bel (unhide HB1)).bel hb1
      have HG1 := hide ((unhide HG).bel hb1)
      have HX1 := hide (bc (unhide HB1) hb1)
      have HF1 := hide (Fr2.bel (a := g5) (b := g5) (unhide HX1))
      have c5 := v5.cell (m := 0) rfl
      have f5 := v5.frozen
      have HV5 := hide v5
      clear hb1 v5 HQ HQN HHA HHB
      rw [tc]
      obtain ⟨rfl, lbl, lc0⟩ := (unhide HLF).it.at (i := 0) (x := (j : Int)) rfl
      obtain ⟨rfl, ppl, p0, p1⟩ := (unhide HENV).pl.at hpj
      have HN1 := hide ((unhide HNE).fr (unhide HF1))
      have HL1 := hide ((unhide HLF).fr (unhide HF1))
      have HE1 := hide ((unhide HENV).fr (unhide HF1))
      have HP1 := hide ((unhide HPS).bel (unhide HX1))
      obtain ⟨_, lbl1, lc1⟩ := (unhide HL1).it.at (i := 0) (x := (j : Int)) rfl
      obtain ⟨_, ppl1, p01, p11⟩ := (unhide HE1).pl.at hpj
      rw [Nat.add_zero] at lc1
      clear lc0 p0 p1 lbl ppl HG
      go_wp2_with fail
      refine Go.Code.wp_mono (Only.to (fun _ _ h => h)) (ly4 (pw := p.w) (ph := p.h) (hide lc1) (hide ((unhide HE1).w3.cell (m := 0) rfl)) (hide p01) (hide p11) (hide (show 0 < 1 by omega)) (hide (show 0 < 1 by omega)) (hide hjn) ?_)
      intro gp W2 hb2 hv2 hg2
      have gp5 : gp ≠ g5 := by have := (unhide HP1).lt; omega
      have HF2 := hide ((unhide HF1).trans (Fr2.bel hb2))
      have HN2 := hide ((unhide HN1).fr (Fr2.bel hb2))
      have HL2 := hide ((unhide HL1).fr (Fr2.bel hb2))
      have HE2 := hide ((unhide HE1).fr (Fr2.bel hb2))
      have HP2 := hide ((unhide HP1).bel hb2)
      have HG2 := hide ((unhide HG1).bel hb2)
      have HV2 := hide hv2
      have gw5 : W.heap.size ≠ g5 := by omega
      clear hb2 hv2 hg2 lc1 p01 p11 lbl1 ppl1 HN1 HL1 HE1 HP1 HG1 HV5 c5 f5 HF1 HX1
      have w0 := (unhide HV2).cell (m := 0) rfl
      have w1 := (unhide HV2).cell (m := 1) rfl
      have ww := (unhide HE2).w2.cell (m := 0) rfl
      by_cases hw : p.w ≤ Wd
      · have t1 : decide (p.w ≤ Wd) = true := decide_eq_true hw
        have HBE : Hid (bst Wd (some B) (lv Wd P (j :: r) pre) = bst Wd (bst Wd (some B) (lv Wd P r (pre ++ [itmT j false p]))) (if p.h ≤ Wd then lv Wd P r (pre ++ [itmT j true p]) else [])) := hide (by rw [unhide HLV, if_pos hw, bst_app])
        have HZ := hide (unhide HSTEP false W2 (some B) (unhide HN2) (unhide HL2) (unhide HE2) (unhide HP2) hw)
        have HWI := hide (unhide HWITH false W2 (unhide HN2) hw)
        go_wp2_with fail
        refine Go.Code.wp_mono (Only.to (fun _ _ h => h)) (ly6a (L := L) (Z := fun X => LyQ W2 X g5 Wd (bst Wd (some B) (lv Wd P r (pre ++ [itmT j false p])))) (ln := 0) (lc := 0) (hide ((unhide HE2).w6.cell (m := 0) rfl)) (hide ((unhide HG2).cell (m := 0) rfl)) (hide ((unhide HG2).cell (m := 1) rfl)) (hide w0) (hide w1) HWI (hide (fun X g4 c4 x y h1 h2 h3 => unhide HZ X g4 c4 x y h1 h2 h3 _ (Or.inr ⟨by first | rfl | trivial, _, rfl⟩))) ?_)
        intro g4' c4' x' y' X5 hz5
        have HP5 := hide hz5.1
        have HF5 := hide ((unhide HF2).trans hz5.2)
        have HN5 := hide ((unhide HN2).fr hz5.2)
        have HL5 := hide ((unhide HL2).fr hz5.2)
        have HE5 := hide ((unhide HE2).fr hz5.2)
        have HG5 := hide (hz5.2.vb (unhide HG2) gw5 gw5)
        have HV5p := hide (hz5.2.vb (unhide HV2) gp5 gp5)
        have w0 := (unhide HV5p).cell (m := 0) rfl
        have w1 := (unhide HV5p).cell (m := 1) rfl
        have ww := (unhide HE5).w2.cell (m := 0) rfl
        clear hz5 HZ HWI HN2 HL2 HE2 HP2 HG2 HV2 HF2
        generalize bst Wd (some B) (lv Wd P r (pre ++ [itmT j false p])) = b5 at *
        by_cases hh : p.h ≤ Wd
        · have t2 : decide (p.h ≤ Wd) = true := decide_eq_true hh
          rw [if_pos hh] at HBE
          have HZ := hide (unhide HSTEP true X5 b5 (unhide HN5) (unhide HL5) (unhide HE5) (unhide HP5) hh)
          have HWI := hide (unhide HWITH true X5 (unhide HN5) hh)
          go_wp2_with fail
          refine Go.Code.wp_mono (Only.to (fun _ _ h => h)) (ly8a (L := L) (Z := fun X => LyQ X5 X g5 Wd (bst Wd b5 (lv Wd P r (pre ++ [itmT j true p])))) (ln := 0) (lc := 0) (hide ((unhide HE5).w6.cell (m := 0) rfl)) (hide ((unhide HG5).cell (m := 0) rfl)) (hide ((unhide HG5).cell (m := 1) rfl)) (hide ((unhide HV5p).cell (m := 0) rfl)) (hide ((unhide HV5p).cell (m := 1) rfl)) HWI (hide (fun X g4 c4 x y h1 h2 h3 => unhide HZ X g4 c4 x y h1 h2 h3 _ (Or.inr ⟨by first | rfl | trivial, _, rfl⟩))) ?_)
          intro g4 c4 x y W9 hz
          have HQ9 := hide hz
          clear hz
          go_wp2_with fail
          refine bodyPost_end (v := .tuple #[]) (by simp [results, Try.results47, go_sem]) rfl ⟨rfl, ?_⟩
          rw [unhide HBE]
          exact ⟨(unhide HQ9).1, (unhide HF5).trans (unhide HQ9).2⟩
        · have t2 : decide (p.h ≤ Wd) = false := decide_eq_false hh
          rw [if_neg hh] at HBE
          go_wp2_with fail
          refine bodyPost_end (v := .tuple #[]) (by simp [results, Try.results47, go_sem]) rfl ⟨rfl, ?_⟩
          rw [unhide HBE]
          exact ⟨unhide HP5, unhide HF5⟩
      · have t1 : decide (p.w ≤ Wd) = false := decide_eq_false hw
        have HBE : Hid (bst Wd (some B) (lv Wd P (j :: r) pre) = bst Wd (some B) (if p.h ≤ Wd then lv Wd P r (pre ++ [itmT j true p]) else [])) := hide (by rw [unhide HLV, if_neg hw, List.nil_append])
        have HP5 := HP2
        have HF5 := HF2
        have HN5 := HN2
        have HL5 := HL2
        have HE5 := HE2
        have HG5 := HG2
        have HV5p := HV2
        by_cases hh : p.h ≤ Wd
        · have t2 : decide (p.h ≤ Wd) = true := decide_eq_true hh
          rw [if_pos hh] at HBE
          have HZ := hide (unhide HSTEP true W2 (some B) (unhide HN5) (unhide HL5) (unhide HE5) (unhide HP5) hh)
          have HWI := hide (unhide HWITH true W2 (unhide HN5) hh)
          go_wp2_with fail
          refine Go.Code.wp_mono (Only.to (fun _ _ h => h)) (ly8a (L := L) (Z := fun X => LyQ W2 X g5 Wd (bst Wd (some B) (lv Wd P r (pre ++ [itmT j true p])))) (ln := 0) (lc := 0) (hide ((unhide HE5).w6.cell (m := 0) rfl)) (hide ((unhide HG5).cell (m := 0) rfl)) (hide ((unhide HG5).cell (m := 1) rfl)) (hide ((unhide HV5p).cell (m := 0) rfl)) (hide ((unhide HV5p).cell (m := 1) rfl)) HWI (hide (fun X g4 c4 x y h1 h2 h3 => unhide HZ X g4 c4 x y h1 h2 h3 _ (Or.inr ⟨by first | rfl | trivial, _, rfl⟩))) ?_)
          intro g4 c4 x y W9 hz
          have HQ9 := hide hz
          clear hz
          go_wp2_with fail
          refine bodyPost_end (v := .tuple #[]) (by simp [results, Try.results47, go_sem]) rfl ⟨rfl, ?_⟩
          rw [unhide HBE]
          exact ⟨(unhide HQ9).1, (unhide HF5).trans (unhide HQ9).2⟩
        · have t2 : decide (p.h ≤ Wd) = false := decide_eq_false hh
          rw [if_neg hh] at HBE
          go_wp2_with fail
          refine bodyPost_end (v := .tuple #[]) (by simp [results, Try.results47, go_sem]) rfl ⟨rfl, ?_⟩
          rw [unhide HBE]
          exact ⟨unhide HP5, unhide HF5⟩

set_option maxHeartbeats 16000000 in
set_option maxRecDepth 100000 in
theorem lay_step2 (Wd : Int) (P : List Pl) (up : Option Addr) (n cp pp ppo g2 g3 g5 g6 : Nat) (hW : 1 ≤ Wd ∧ Wd ≤ 1000) (hPn : P.length = n) (hpl : ∀ p ∈ P, (1 ≤ p.w ∧ p.w ≤ 1000) ∧ 1 ≤ p.h ∧ p.h ≤ 1000) (j : Nat) (p : Pl) (r : List Nat) (pre : List Itm) (L : List Ld) (b : Option (List Ld)) (u : Option Addr) (k c bb bo : Nat) (ul : Option Addr) (ll lc lb lo : Nat) (W : World) (hkl : k + ll ≤ 900) (hl1 : 1 ≤ ll) (hlc1 : ll ≤ lc) (hlc : ¬ lc = 1) (hpj : P[j]? = some p) (hjn : j < n) (hns : Nst Wd L) (hfo : Fol pre L) (hpr : ∀ q ∈ pre, q.w ≤ Wd) (hne : NeP W g5 u k c bb bo L) (hlf : Lef W g5 ul ll lc lb lo (j :: r)) (henv : Env W Wd P up n cp pp ppo g2 g3 g5 g6) (hps : PsB W g5 Wd b)
    (STEP : ∀ (t : Bool) (V : World) (b2 : Option (List Ld)), NeP V g5 u k c bb bo L → Lef V g5 ul ll lc lb lo (j :: r) → Env V Wd P up n cp pp ppo g2 g3 g5 g6 → PsB V g5 Wd b2 → twd t p.w p.h ≤ Wd → ∀ X g4 c4 x y, Below V.heap.size V X → NewL V X g4 k c4 (L ++ [⟨(j : Int), t, ⟨x, y, twd t p.w p.h, twd t p.h p.w⟩⟩]) → Low Wd (rcs L) (twd t p.w p.h) (twd t p.h p.w) x y → ∀ cut, (cut = .slice (some ⟨lb, lo + 1, none⟩) (ll - 1) (lc - 1) ∨ (ll = 1 ∧ ∃ a, cut = .slice a 0 0)) →
      Calls Try.prog 47 #[.agg #[.int .i64 Wd, .slice (some ⟨g4, 0, none⟩) (k + 1) c4], cut, .pointer (some ⟨g5, 0, none⟩), .pointer (some ⟨g3, 0, none⟩), .pointer (some ⟨g2, 0, none⟩), .pointer (some ⟨g6, 0, none⟩)] X fun e w' => e = .returned (.tuple #[]) ∧ LyQ V w' g5 Wd (bst Wd b2 (lv Wd P r (pre ++ [itmT j t p])))) :
    Calls Try.prog 47 #[.agg #[.int .i64 Wd, .slice u k c], .slice ul ll lc, .pointer (some ⟨g5, 0, none⟩), .pointer (some ⟨g3, 0, none⟩), .pointer (some ⟨g2, 0, none⟩), .pointer (some ⟨g6, 0, none⟩)] W fun e W' => e = .returned (.tuple #[]) ∧ LyQ W W' g5 Wd (bst Wd b (lv Wd P (j :: r) pre)) := by
  have hpb := hpl p (List.mem_of_getElem? hpj)
  have HLV := hide (lv_cons (Wd := Wd) hpj r pre)
  have HWITH := hide (fun (t : Bool) (V : World) (hv : NeP V g5 u k c bb bo L) (hft : twd t p.w p.h ≤ Wd) X (hX : Below V.heap.size V X) => wiP_any Wd (j : Int) p.w p.h t u bb bo k c L X hv.len (by omega) (hv.ld.bel hX) hv.near.nr hv.near.hg hv.ca hv.u0 hv.u1 hW hpb hft)

  have HSTEP := hide STEP
  clear STEP
  have l0 : ((ll : Int) == 0) = false := by simp; omega
  have n0 : (0 : Int) ≤ (n : Int) := Int.natCast_nonneg _
  have HNE := hide hne
  have HPS := hide hps
  have HLF := hide hlf
  have HENV := hide henv
  have HG := hide (vb_new W 47 [.int .i64 Wd, .slice u k c] W.heap.size rfl)
  have HB1 := hide (ba (Below.refl W.heap.size W) (.cells #[.int .i64 Wd, .slice u k c] 47))
  have g5l := hps.lt
  have e0 := nestOf_eq hns hfo
  have HU0 := hide e0
  have HNS := hide hns
  have HFO := hide hfo
  have HPR := hide hpr
  cases b with
  | none =>
    have HQ : Hid (vb W g5 86 [.pointer none]) := hide hps
    skip
    clear hne hps hlf henv hns hfo hpr e0
    go_enter Try.func47, Try.ntmps47
    go_wp2_with fail
    refine Go.Code.wp_mono (Only.to (fun _ _ h => h)) (ly1n (hide (((unhide HQ).bel (unhide HB1)).cell (m := 0) rfl)) ?_)
    intro W1 hb1
    have v5 := ((unhide HQ).bel (unhide HB1)).bel hb1
    have HG1 := hide ((unhide HG).bel hb1)
    have HX1 := hide (bc (unhide HB1) hb1)
    have HF1 := hide (Fr2.bel (a := g5) (b := g5) (unhide HX1))
    have c5 := v5.cell (m := 0) rfl
    have f5 := v5.frozen
    have HV5 := hide v5
    clear hb1 v5
    obtain ⟨rfl, lbl, lc0⟩ := (unhide HLF).it.at (i := 0) (x := (j : Int)) rfl
    obtain ⟨rfl, ppl, p0, p1⟩ := (unhide HENV).pl.at hpj
    have HN1 := hide ((unhide HNE).fr (unhide HF1))
    have HL1 := hide ((unhide HLF).fr (unhide HF1))
    have HE1 := hide ((unhide HENV).fr (unhide HF1))
    have HP1 := hide ((unhide HPS).bel (unhide HX1))
    obtain ⟨_, lbl1, lc1⟩ := (unhide HL1).it.at (i := 0) (x := (j : Int)) rfl
    obtain ⟨_, ppl1, p01, p11⟩ := (unhide HE1).pl.at hpj
    rw [Nat.add_zero] at lc1
    clear lc0 p0 p1 lbl ppl HG
    go_wp2_with fail
    refine Go.Code.wp_mono (Only.to (fun _ _ h => h)) (ly4 (pw := p.w) (ph := p.h) (hide lc1) (hide ((unhide HE1).w3.cell (m := 0) rfl)) (hide p01) (hide p11) (hide (show 0 < ll by omega)) (hide (show 0 < ll by omega)) (hide hjn) ?_)
    intro gp W2 hb2 hv2 hg2
    have gp5 : gp ≠ g5 := by have := (unhide HP1).lt; omega
    have HF2 := hide ((unhide HF1).trans (Fr2.bel hb2))
    have HN2 := hide ((unhide HN1).fr (Fr2.bel hb2))
    have HL2 := hide ((unhide HL1).fr (Fr2.bel hb2))
    have HE2 := hide ((unhide HE1).fr (Fr2.bel hb2))
    have HP2 := hide ((unhide HP1).bel hb2)
    have HG2 := hide ((unhide HG1).bel hb2)
    have HV2 := hide hv2
    have gw5 : W.heap.size ≠ g5 := by omega
    clear hb2 hv2 hg2 lc1 p01 p11 lbl1 ppl1 HN1 HL1 HE1 HP1 HG1 HV5 c5 f5 HF1 HX1
    have w0 := (unhide HV2).cell (m := 0) rfl
    have w1 := (unhide HV2).cell (m := 1) rfl
    have ww := (unhide HE2).w2.cell (m := 0) rfl
    by_cases hw : p.w ≤ Wd
    · have t1 : decide (p.w ≤ Wd) = true := decide_eq_true hw
      have HBE : Hid (bst Wd none (lv Wd P (j :: r) pre) = bst Wd (bst Wd none (lv Wd P r (pre ++ [itmT j false p]))) (if p.h ≤ Wd then lv Wd P r (pre ++ [itmT j true p]) else [])) := hide (by rw [unhide HLV, if_pos hw, bst_app])
      have HZ := hide (unhide HSTEP false W2 none (unhide HN2) (unhide HL2) (unhide HE2) (unhide HP2) hw)
      have HWI := hide (unhide HWITH false W2 (unhide HN2) hw)
      go_wp2_with fail
      refine Go.Code.wp_mono (Only.to (fun _ _ h => h)) (ly6b (L := L) (Z := fun X => LyQ W2 X g5 Wd (bst Wd none (lv Wd P r (pre ++ [itmT j false p])))) (hide (by omega)) (hide (by omega)) (hide hlc) (hide ((unhide HE2).w6.cell (m := 0) rfl)) (hide ((unhide HG2).cell (m := 0) rfl)) (hide ((unhide HG2).cell (m := 1) rfl)) (hide w0) (hide w1) HWI (hide (fun X g4 c4 x y h1 h2 h3 => unhide HZ X g4 c4 x y h1 h2 h3 _ (Or.inl rfl))) ?_)
      intro g4' c4' x' y' X5 hz5
      have HP5 := hide hz5.1
      have HF5 := hide ((unhide HF2).trans hz5.2)
      have HN5 := hide ((unhide HN2).fr hz5.2)
      have HL5 := hide ((unhide HL2).fr hz5.2)
      have HE5 := hide ((unhide HE2).fr hz5.2)
      have HG5 := hide (hz5.2.vb (unhide HG2) gw5 gw5)
      have HV5p := hide (hz5.2.vb (unhide HV2) gp5 gp5)
      have w0 := (unhide HV5p).cell (m := 0) rfl
      have w1 := (unhide HV5p).cell (m := 1) rfl
      have ww := (unhide HE5).w2.cell (m := 0) rfl
      clear hz5 HZ HWI HN2 HL2 HE2 HP2 HG2 HV2 HF2
      generalize bst Wd none (lv Wd P r (pre ++ [itmT j false p])) = b5 at *
      by_cases hh : p.h ≤ Wd
      · have t2 : decide (p.h ≤ Wd) = true := decide_eq_true hh
        rw [if_pos hh] at HBE
        have HZ := hide (unhide HSTEP true X5 b5 (unhide HN5) (unhide HL5) (unhide HE5) (unhide HP5) hh)
        have HWI := hide (unhide HWITH true X5 (unhide HN5) hh)
        go_wp2_with fail
        refine Go.Code.wp_mono (Only.to (fun _ _ h => h)) (ly8b (L := L) (Z := fun X => LyQ X5 X g5 Wd (bst Wd b5 (lv Wd P r (pre ++ [itmT j true p])))) (hide (by omega)) (hide (by omega)) (hide hlc) (hide ((unhide HE5).w6.cell (m := 0) rfl)) (hide ((unhide HG5).cell (m := 0) rfl)) (hide ((unhide HG5).cell (m := 1) rfl)) (hide ((unhide HV5p).cell (m := 0) rfl)) (hide ((unhide HV5p).cell (m := 1) rfl)) HWI (hide (fun X g4 c4 x y h1 h2 h3 => unhide HZ X g4 c4 x y h1 h2 h3 _ (Or.inl rfl))) ?_)
        intro g4 c4 x y W9 hz
        have HQ9 := hide hz
        clear hz
        go_wp2_with fail
        refine bodyPost_end (v := .tuple #[]) (by simp [results, Try.results47, go_sem]) rfl ⟨rfl, ?_⟩
        rw [unhide HBE]
        exact ⟨(unhide HQ9).1, (unhide HF5).trans (unhide HQ9).2⟩
      · have t2 : decide (p.h ≤ Wd) = false := decide_eq_false hh
        rw [if_neg hh] at HBE
        go_wp2_with fail
        refine bodyPost_end (v := .tuple #[]) (by simp [results, Try.results47, go_sem]) rfl ⟨rfl, ?_⟩
        rw [unhide HBE]
        exact ⟨unhide HP5, unhide HF5⟩
    · have t1 : decide (p.w ≤ Wd) = false := decide_eq_false hw
      have HBE : Hid (bst Wd none (lv Wd P (j :: r) pre) = bst Wd none (if p.h ≤ Wd then lv Wd P r (pre ++ [itmT j true p]) else [])) := hide (by rw [unhide HLV, if_neg hw, List.nil_append])
      have HP5 := HP2
      have HF5 := HF2
      have HN5 := HN2
      have HL5 := HL2
      have HE5 := HE2
      have HG5 := HG2
      have HV5p := HV2
      by_cases hh : p.h ≤ Wd
      · have t2 : decide (p.h ≤ Wd) = true := decide_eq_true hh
        rw [if_pos hh] at HBE
        have HZ := hide (unhide HSTEP true W2 none (unhide HN5) (unhide HL5) (unhide HE5) (unhide HP5) hh)
        have HWI := hide (unhide HWITH true W2 (unhide HN5) hh)
        go_wp2_with fail
        refine Go.Code.wp_mono (Only.to (fun _ _ h => h)) (ly8b (L := L) (Z := fun X => LyQ W2 X g5 Wd (bst Wd none (lv Wd P r (pre ++ [itmT j true p])))) (hide (by omega)) (hide (by omega)) (hide hlc) (hide ((unhide HE5).w6.cell (m := 0) rfl)) (hide ((unhide HG5).cell (m := 0) rfl)) (hide ((unhide HG5).cell (m := 1) rfl)) (hide ((unhide HV5p).cell (m := 0) rfl)) (hide ((unhide HV5p).cell (m := 1) rfl)) HWI (hide (fun X g4 c4 x y h1 h2 h3 => unhide HZ X g4 c4 x y h1 h2 h3 _ (Or.inl rfl))) ?_)
        intro g4 c4 x y W9 hz
        have HQ9 := hide hz
        clear hz
        go_wp2_with fail
        refine bodyPost_end (v := .tuple #[]) (by simp [results, Try.results47, go_sem]) rfl ⟨rfl, ?_⟩
        rw [unhide HBE]
        exact ⟨(unhide HQ9).1, (unhide HF5).trans (unhide HQ9).2⟩
      · have t2 : decide (p.h ≤ Wd) = false := decide_eq_false hh
        rw [if_neg hh] at HBE
        go_wp2_with fail
        refine bodyPost_end (v := .tuple #[]) (by simp [results, Try.results47, go_sem]) rfl ⟨rfl, ?_⟩
        rw [unhide HBE]
        exact ⟨unhide HP5, unhide HF5⟩

  | some B =>
    obtain ⟨nb, ub, cb, b2, b2o, hq5, hqn, hnn, hnB, hB9⟩ := hps
    have HQ := hide hq5
    have HQN := hide hqn
    have HHA := hide (fun X (hX : Below W.heap.size W X) => heP_any Wd u bb bo k c L X hne.len (by omega) (hne.ld.bel hX) hne.near)
    have HHB := hide (fun X (hX : Below W.heap.size W X) => heP_any Wd ub b2 b2o B.length cb B X rfl hB9 (hnB.ld.bel hX) hnB.near)
    by_cases hcut : hgtOf B ≤ hgtOf L
    · have HPR2 := hide (prune (P := P) (j :: r) pre hpr (B := B) (by rw [e0]; exact hcut))
      generalize hgtOf L = ha at *
      generalize hgtOf B = hb at *
      have tc : decide (hb ≤ ha) = true := decide_eq_true hcut
      clear hne hlf henv hns hfo hpr e0 hq5 hqn hnB
      go_enter Try.func47, Try.ntmps47
      go_wp2_with fail
      refine Go.Code.wp_mono (Only.to (fun _ _ h => h)) (ly1s (ha := ha) (hb := hb) (hide (((unhide HQ).bel (unhide HB1)).cell (m := 0) rfl)) (hide ((unhide HG).cell (m := 0) rfl)) (hide ((unhide HG).cell (m := 1) rfl)) (hide (((unhide HQN).bel (unhide HB1)).cell (m := 0) rfl)) (hide (((unhide HQN).bel (unhide HB1)).cell (m := 1) rfl)) (hide (fun X hX => unhide HHA X (bc (unhide HB1) hX))) (hide (fun X hX => unhide HHB X (bc (unhide HB1) hX))) ?_)
      intro W1 hb1
      have HX1 := hide (bc (unhide HB1) hb1)
      clear hb1
      rw [tc]
      go_wp2_with fail
      refine bodyPost_ret (v := .tuple #[]) (by simp [results, Try.results47, go_sem]) rfl ⟨rfl, ?_⟩
      rw [unhide HPR2]
      exact ⟨(unhide HPS).bel (unhide HX1), Fr2.bel (unhide HX1)⟩
    · skip
      generalize hgtOf L = ha at *
      generalize hgtOf B = hb at *
      have tc : decide (hb ≤ ha) = false := decide_eq_false hcut
      clear hne hlf henv hns hfo hpr e0 hq5 hqn hnB
      go_enter Try.func47, Try.ntmps47
      go_wp2_with fail
      refine Go.Code.wp_mono (Only.to (fun _ _ h => h)) (ly1s (ha := ha) (hb := hb) (hide (((unhide HQ).bel (unhide HB1)).cell (m := 0) rfl)) (hide ((unhide HG).cell (m := 0) rfl)) (hide ((unhide HG).cell (m := 1) rfl)) (hide (((unhide HQN).bel (unhide HB1)).cell (m := 0) rfl)) (hide (((unhide HQN).bel (unhide HB1)).cell (m := 1) rfl)) (hide (fun X hX => unhide HHA X (bc (unhide HB1) hX))) (hide (fun X hX => unhide HHB X (bc (unhide HB1) hX))) ?_)
      intro W1 hb1
      have v5 := ((unhide HQ).bel (unhide HB1)).bel hb1
      have HG1 := hide ((unhide HG).bel hb1)
      have HX1 := hide (bc (unhide HB1) hb1)
      have HF1 := hide (Fr2.bel (a := g5) (b := g5) (unhide HX1))
      have c5 := v5.cell (m := 0) rfl
      have f5 := v5.frozen
      have HV5 := hide v5
      clear hb1 v5 HQ HQN HHA HHB
      rw [tc]
      obtain ⟨rfl, lbl, lc0⟩ := (unhide HLF).it.at (i := 0) (x := (j : Int)) rfl
      obtain ⟨rfl, ppl, p0, p1⟩ := (unhide HENV).pl.at hpj
      have HN1 := hide ((unhide HNE).fr (unhide HF1))
      have HL1 := hide ((unhide HLF).fr (unhide HF1))
      have HE1 := hide ((unhide HENV).fr (unhide HF1))
      have HP1 := hide ((unhide HPS).bel (unhide HX1))
      obtain ⟨_, lbl1, lc1⟩ := (unhide HL1).it.at (i := 0) (x := (j : Int)) rfl
      obtain ⟨_, ppl1, p01, p11⟩ := (unhide HE1).pl.at hpj
      rw [Nat.add_zero] at lc1
      clear lc0 p0 p1 lbl ppl HG
      go_wp2_with fail
      refine Go.Code.wp_mono (Only.to (fun _ _ h => h)) (ly4 (pw := p.w) (ph := p.h) (hide lc1) (hide ((unhide HE1).w3.cell (m := 0) rfl)) (hide p01) (hide p11) (hide (show 0 < ll by omega)) (hide (show 0 < ll by omega)) (hide hjn) ?_)
      intro gp W2 hb2 hv2 hg2
      have gp5 : gp ≠ g5 := by have := (unhide HP1).lt; omega
      have HF2 := hide ((unhide HF1).trans (Fr2.bel hb2))
      have HN2 := hide ((unhide HN1).fr (Fr2.bel hb2))
      have HL2 := hide ((unhide HL1).fr (Fr2.bel hb2))
      have HE2 := hide ((unhide HE1).fr (Fr2.bel hb2))
      have HP2 := hide ((unhide HP1).bel hb2)
      have HG2 := hide ((unhide HG1).bel hb2)
      have HV2 := hide hv2
      have gw5 : W.heap.size ≠ g5 := by omega
      clear hb2 hv2 hg2 lc1 p01 p11 lbl1 ppl1 HN1 HL1 HE1 HP1 HG1 HV5 c5 f5 HF1 HX1
      have w0 := (unhide HV2).cell (m := 0) rfl
      have w1 := (unhide HV2).cell (m := 1) rfl
      have ww := (unhide HE2).w2.cell (m := 0) rfl
      by_cases hw : p.w ≤ Wd
      · have t1 : decide (p.w ≤ Wd) = true := decide_eq_true hw
        have HBE : Hid (bst Wd (some B) (lv Wd P (j :: r) pre) = bst Wd (bst Wd (some B) (lv Wd P r (pre ++ [itmT j false p]))) (if p.h ≤ Wd then lv Wd P r (pre ++ [itmT j true p]) else [])) := hide (by rw [unhide HLV, if_pos hw, bst_app])
        have HZ := hide (unhide HSTEP false W2 (some B) (unhide HN2) (unhide HL2) (unhide HE2) (unhide HP2) hw)
        have HWI := hide (unhide HWITH false W2 (unhide HN2) hw)
        go_wp2_with fail
        refine Go.Code.wp_mono (Only.to (fun _ _ h => h)) (ly6b (L := L) (Z := fun X => LyQ W2 X g5 Wd (bst Wd (some B) (lv Wd P r (pre ++ [itmT j false p])))) (hide (by omega)) (hide (by omega)) (hide hlc) (hide ((unhide HE2).w6.cell (m := 0) rfl)) (hide ((unhide HG2).cell (m := 0) rfl)) (hide ((unhide HG2).cell (m := 1) rfl)) (hide w0) (hide w1) HWI (hide (fun X g4 c4 x y h1 h2 h3 => unhide HZ X g4 c4 x y h1 h2 h3 _ (Or.inl rfl))) ?_)
        intro g4' c4' x' y' X5 hz5
        have HP5 := hide hz5.1
        have HF5 := hide ((unhide HF2).trans hz5.2)
        have HN5 := hide ((unhide HN2).fr hz5.2)
        have HL5 := hide ((unhide HL2).fr hz5.2)
        have HE5 := hide ((unhide HE2).fr hz5.2)
        have HG5 := hide (hz5.2.vb (unhide HG2) gw5 gw5)
        have HV5p := hide (hz5.2.vb (unhide HV2) gp5 gp5)
        have w0 := (unhide HV5p).cell (m := 0) rfl
        have w1 := (unhide HV5p).cell (m := 1) rfl
        have ww := (unhide HE5).w2.cell (m := 0) rfl
        clear hz5 HZ HWI HN2 HL2 HE2 HP2 HG2 HV2 HF2
        generalize bst Wd (some B) (lv Wd P r (pre ++ [itmT j false p])) = b5 at *
        by_cases hh : p.h ≤ Wd
        · have t2 : decide (p.h ≤ Wd) = true := decide_eq_true hh
          rw [if_pos hh] at HBE
          have HZ := hide (unhide HSTEP true X5 b5 (unhide HN5) (unhide HL5) (unhide HE5) (unhide HP5) hh)
          have HWI := hide (unhide HWITH true X5 (unhide HN5) hh)
          go_wp2_with fail
          refine Go.Code.wp_mono (Only.to (fun _ _ h => h)) (ly8b (L := L) (Z := fun X => LyQ X5 X g5 Wd (bst Wd b5 (lv Wd P r (pre ++ [itmT j true p])))) (hide (by omega)) (hide (by omega)) (hide hlc) (hide ((unhide HE5).w6.cell (m := 0) rfl)) (hide ((unhide HG5).cell (m := 0) rfl)) (hide ((unhide HG5).cell (m := 1) rfl)) (hide ((unhide HV5p).cell (m := 0) rfl)) (hide ((unhide HV5p).cell (m := 1) rfl)) HWI (hide (fun X g4 c4 x y h1 h2 h3 => unhide HZ X g4 c4 x y h1 h2 h3 _ (Or.inl rfl))) ?_)
          intro g4 c4 x y W9 hz
          have HQ9 := hide hz
          clear hz
          go_wp2_with fail
          refine bodyPost_end (v := .tuple #[]) (by simp [results, Try.results47, go_sem]) rfl ⟨rfl, ?_⟩
          rw [unhide HBE]
          exact ⟨(unhide HQ9).1, (unhide HF5).trans (unhide HQ9).2⟩
        · have t2 : decide (p.h ≤ Wd) = false := decide_eq_false hh
          rw [if_neg hh] at HBE
          go_wp2_with fail
          refine bodyPost_end (v := .tuple #[]) (by simp [results, Try.results47, go_sem]) rfl ⟨rfl, ?_⟩
          rw [unhide HBE]
          exact ⟨unhide HP5, unhide HF5⟩
      · have t1 : decide (p.w ≤ Wd) = false := decide_eq_false hw
        have HBE : Hid (bst Wd (some B) (lv Wd P (j :: r) pre) = bst Wd (some B) (if p.h ≤ Wd then lv Wd P r (pre ++ [itmT j true p]) else [])) := hide (by rw [unhide HLV, if_neg hw, List.nil_append])
        have HP5 := HP2
        have HF5 := HF2
        have HN5 := HN2
        have HL5 := HL2
        have HE5 := HE2
        have HG5 := HG2
        have HV5p := HV2
        by_cases hh : p.h ≤ Wd
        · have t2 : decide (p.h ≤ Wd) = true := decide_eq_true hh
          rw [if_pos hh] at HBE
          have HZ := hide (unhide HSTEP true W2 (some B) (unhide HN5) (unhide HL5) (unhide HE5) (unhide HP5) hh)
          have HWI := hide (unhide HWITH true W2 (unhide HN5) hh)
          go_wp2_with fail
          refine Go.Code.wp_mono (Only.to (fun _ _ h => h)) (ly8b (L := L) (Z := fun X => LyQ W2 X g5 Wd (bst Wd (some B) (lv Wd P r (pre ++ [itmT j true p])))) (hide (by omega)) (hide (by omega)) (hide hlc) (hide ((unhide HE5).w6.cell (m := 0) rfl)) (hide ((unhide HG5).cell (m := 0) rfl)) (hide ((unhide HG5).cell (m := 1) rfl)) (hide ((unhide HV5p).cell (m := 0) rfl)) (hide ((unhide HV5p).cell (m := 1) rfl)) HWI (hide (fun X g4 c4 x y h1 h2 h3 => unhide HZ X g4 c4 x y h1 h2 h3 _ (Or.inl rfl))) ?_)
          intro g4 c4 x y W9 hz
          have HQ9 := hide hz
          clear hz
          go_wp2_with fail
          refine bodyPost_end (v := .tuple #[]) (by simp [results, Try.results47, go_sem]) rfl ⟨rfl, ?_⟩
          rw [unhide HBE]
          exact ⟨(unhide HQ9).1, (unhide HF5).trans (unhide HQ9).2⟩
        · have t2 : decide (p.h ≤ Wd) = false := decide_eq_false hh
          rw [if_neg hh] at HBE
          go_wp2_with fail
          refine bodyPost_end (v := .tuple #[]) (by simp [results, Try.results47, go_sem]) rfl ⟨rfl, ?_⟩
          rw [unhide HBE]
          exact ⟨unhide HP5, unhide HF5⟩

theorem lay_any (Wd : Int) (P : List Pl) (up : Option Addr) (n cp pp ppo g2 g3 g5 g6 : Nat) (hW : 1 ≤ Wd ∧ Wd ≤ 1000) (hPn : P.length = n) (hpl : ∀ p ∈ P, (1 ≤ p.w ∧ p.w ≤ 1000) ∧ 1 ≤ p.h ∧ p.h ≤ 1000) :
    ∀ (r : List Nat) (pre : List Itm) (L : List Ld) (b : Option (List Ld)) (u : Option Addr) (k c bb bo : Nat) (ul : Option Addr) (ll lc lb lo : Nat) (W : World), k + ll ≤ 900 → (∀ j ∈ r, j < n) → Nst Wd L → Fol pre L → (∀ q ∈ pre, q.w ≤ Wd) → NeP W g5 u k c bb bo L → Lef W g5 ul ll lc lb lo r → Env W Wd P up n cp pp ppo g2 g3 g5 g6 → PsB W g5 Wd b →
      Calls Try.prog 47 #[.agg #[.int .i64 Wd, .slice u k c], .slice ul ll lc, .pointer (some ⟨g5, 0, none⟩), .pointer (some ⟨g3, 0, none⟩), .pointer (some ⟨g2, 0, none⟩), .pointer (some ⟨g6, 0, none⟩)] W fun e W' => e = .returned (.tuple #[]) ∧ LyQ W W' g5 Wd (bst Wd b (lv Wd P r pre)) := by
  intro r
  induction r with
  | nil =>
    intro pre L b u k c bb bo ul ll lc lb lo W hkl hrn hns hfo hpr hne hlf henv hps
    obtain rfl : ll = 0 := by have := hlf.len; simpa using this.symm
    exact lay_leaf Wd P up n cp pp ppo g2 g3 g5 g6 hW hPn hpl pre L b u k c bb bo ul lc lb lo W hkl hns hfo hpr hne hlf henv hps
  | cons j r ih =>
    intro pre L b u k c bb bo ul ll lc lb lo W hkl hrn hns hfo hpr hne hlf henv hps
    have hj := hrn j (by simp)
    obtain ⟨p, hp⟩ := get_some hPn hj
    have hpb := hpl p (List.mem_of_getElem? hp)
    have hl := hlf.len
    simp at hl
    have STEP : ∀ (t : Bool) (V : World) (b2 : Option (List Ld)), NeP V g5 u k c bb bo L → Lef V g5 ul ll lc lb lo (j :: r) → Env V Wd P up n cp pp ppo g2 g3 g5 g6 → PsB V g5 Wd b2 → twd t p.w p.h ≤ Wd → ∀ X g4 c4 x y, Below V.heap.size V X → NewL V X g4 k c4 (L ++ [⟨(j : Int), t, ⟨x, y, twd t p.w p.h, twd t p.h p.w⟩⟩]) → Low Wd (rcs L) (twd t p.w p.h) (twd t p.h p.w) x y → ∀ cut, (cut = .slice (some ⟨lb, lo + 1, none⟩) (ll - 1) (lc - 1) ∨ (ll = 1 ∧ ∃ a, cut = .slice a 0 0)) →
      Calls Try.prog 47 #[.agg #[.int .i64 Wd, .slice (some ⟨g4, 0, none⟩) (k + 1) c4], cut, .pointer (some ⟨g5, 0, none⟩), .pointer (some ⟨g3, 0, none⟩), .pointer (some ⟨g2, 0, none⟩), .pointer (some ⟨g6, 0, none⟩)] X fun e w' => e = .returned (.tuple #[]) ∧ LyQ V w' g5 Wd (bst Wd b2 (lv Wd P r (pre ++ [itmT j t p]))) := by
      intro t V b2 h1 h2 h3 h4 hft X g4 c4 x y hX hnew hlow cut hcut
      have hfr := Fr2.bel (a := g5) (b := g5) hX
      have hnp := nep_new (Wd := Wd) (g5 := g5) hnew hlow h1.len h1.near hW.2 (by omega) hpb h4.lt
      have hns' : Nst Wd (L ++ [⟨(j : Int), t, ⟨x, y, twd t p.w p.h, twd t p.h p.w⟩⟩]) := nst_snoc hns hlow
      have hfo' : Fol (pre ++ [itmT j t p]) (L ++ [⟨(j : Int), t, ⟨x, y, twd t p.w p.h, twd t p.h p.w⟩⟩]) := fol_snoc hfo ⟨rfl, rfl, rfl, rfl⟩
      have hpr' : ∀ q ∈ pre ++ [itmT j t p], q.w ≤ Wd := fun q hq => by rcases List.mem_append.1 hq with h | h; (exact hpr q h); (simp at h; subst h; exact hft)
      rcases hcut with rfl | ⟨h1l, a, rfl⟩
      · refine (ih _ _ b2 _ (k + 1) c4 g4 0 _ (ll - 1) (lc - 1) lb (lo + 1) X (by omega) (fun q hq => hrn q (by simp [hq])) hns' hfo' hpr' hnp (h2.tail.fr hfr) (h3.fr hfr) (h4.bel hX)).mono ?_
        rintro e w' ⟨rfl, q1, q2⟩
        exact ⟨rfl, q1, hfr.trans q2⟩
      · have hr0 : r = [] := List.eq_nil_of_length_eq_zero (by omega)
        subst hr0
        refine (ih _ _ b2 _ (k + 1) c4 g4 0 a 0 0 0 0 X (by omega) (fun q hq => by cases hq) hns' hfo' hpr' hnp (Lef.none0 _ _ _) (h3.fr hfr) (h4.bel hX)).mono ?_
        rintro e w' ⟨rfl, q1, q2⟩
        exact ⟨rfl, q1, hfr.trans q2⟩
    by_cases hlc : lc = 1
    · exact lay_step1 Wd P up n cp pp ppo g2 g3 g5 g6 hW hPn hpl j p r pre L b u k c bb bo ul ll lc lb lo W hkl (by omega) hlf.ca hlc hp hj hns hfo hpr hne hlf henv hps STEP
    · exact lay_step2 Wd P up n cp pp ppo g2 g3 g5 g6 hW hPn hpl j p r pre L b u k c bb bo ul ll lc lb lo W hkl (by omega) hlf.ca hlc hp hj hns hfo hpr hne hlf henv hps STEP
end Go.Proofs.Ytoidhlackoigkaa
