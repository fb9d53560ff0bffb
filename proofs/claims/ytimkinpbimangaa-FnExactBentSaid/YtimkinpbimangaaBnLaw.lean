/-
  The program's Bent answers as the model at all panels and bends, right or not; it changes none; its corners lie in memory of their own.
-/
import Derived.Test.YtimkinpbimangaaBnB
import Derived.Test.YtimkinpbimangaaBmB
import Derived.Test.YtimkinpbimangaaPtKit
import Derived.Test.YtimkinpbimangaaOpenRows
import Derived.Test.YtimkinpbimangaaChecked
import Derived.Test.YtimkinpbimangaaRows
import Derived.ChangeOld
import Derived.Lib.SmallJoins
namespace Go.Proofs.Ytimkinpbimangaa
open Go.ChangeShapes Go.WideShapes Go.ChangeAt Go.RowKit Go.Joins
set_option linter.unusedVariables false
set_option linter.unusedSimpArgs false

theorem bnL_len (ps bs : List Int) : (bnL ps bs).length ≤ 41 := by
  unfold bnL
  split
  · simp
  · split
    · rename_i h
      have := (stp_parts h).1
      split
      · rw [cns_len]; omega
      · simp
    · simp
/-- what the law has in hand: both answers, and the blocks that it handed in -/
structure Bs (w : World) (g0 g1 B2 : Nat) (uw ug : Option Addr) (m cw cg : Nat) (F FG : List Int) (X : World) : Prop where
  bel : Below w.heap.size w X
  rw : Row X w.heap.size 32 2 (.slice uw m cw) m F
  rg : Row X B2 32 2 (.slice ug m cg) m FG
  ow : ∀ b, (Value.slice uw m cw).ownBlock = some b → b < g0
  o0 : w.heap.size ≤ g0
  o1 : g0 < g1
  o2 : g1 < B2
theorem Bs.next {w : World} {g0 g1 B2 : Nat} {uw ug : Option Addr} {m cw cg : Nat} {F FG : List Int} {X X' : World} (h : Bs w g0 g1 B2 uw ug m cw cg F FG X) (hb : Below X.heap.size X X') : Bs w g0 g1 B2 uw ug m cw cg F FG X' :=
  ⟨bc h.bel hb, h.rw.below hb, h.rg.below hb, h.ow, h.o0, h.o1, h.o2⟩
theorem Bs.mk0 {w : World} {g0 g1 B2 : Nat} {uw ug : Option Addr} {m cw cg : Nat} {F FG : List Int} {X X' : World} (h : Bs w g0 g1 B2 uw ug m cw cg F FG X) (hb : But g0 X X') : Bs w g0 g1 B2 uw ug m cw cg F FG X' :=
  ⟨h.bel.trans (hb.bel h.o0), h.rw.but hb (fun b e => by have := h.ow b e; omega), h.rg.but hb (fun b e => by have := (h.rg.olt b e).1; have := h.o1; have := h.o2; omega), h.ow, h.o0, h.o1, h.o2⟩
theorem Bs.mk1 {w : World} {g0 g1 B2 : Nat} {uw ug : Option Addr} {m cw cg : Nat} {F FG : List Int} {X X' : World} (h : Bs w g0 g1 B2 uw ug m cw cg F FG X) (hb : But g1 X X') : Bs w g0 g1 B2 uw ug m cw cg F FG X' :=
  ⟨h.bel.trans (hb.bel (by have := h.o0; have := h.o1; omega)), h.rw.but hb (fun b e => by have := h.ow b e; have := h.o1; omega), h.rg.but hb (fun b e => by have := (h.rg.olt b e).1; have := h.o2; omega), h.ow, h.o0, h.o1, h.o2⟩
theorem Bs.mkG {w : World} {g0 g1 B2 : Nat} {uw ug : Option Addr} {m cw cg : Nat} {F FG FG' : List Int} {X X' : World} (h : Bs w g0 g1 B2 uw ug m cw cg F FG X) (hb : Below B2 X X') (hr : Row X' B2 32 2 (.slice ug m cg) m FG') : Bs w g0 g1 B2 uw ug m cw cg F FG' X' :=
  ⟨h.bel.trans (hb.mono (by have := h.o0; have := h.o1; have := h.o2; omega)), h.rw.kept' (fun b e => hb.block b (by have := h.ow b e; have := h.o1; have := h.o2; omega)), hr, h.ow, h.o0, h.o1, h.o2⟩
set_option maxHeartbeats 8000000 in
set_option maxRecDepth 100000 in
theorem fnExactBent_walk (a0 : Option Addr) (n cap0 : Nat) (z0 : List Int) (a1 : Option Addr) (m cap1 : Nat) (z1 : List Int) (w : World) (b0 : n ≤ 9223372036854775807) (l0 : z0.length = n) (w0 : n ≠ 0 → ∃ p po, a0 = some ⟨p, po, none⟩ ∧ p < w.heap.size ∧ IntsAt w p po z0) (b1 : m ≤ 9223372036854775807) (l1 : z1.length = m) (w1 : m ≠ 0 → ∃ p po, a1 = some ⟨p, po, none⟩ ∧ p < w.heap.size ∧ IntsAt w p po z1) :
    Calls Try.prog 4 #[.slice a0 n cap0, .slice a1 m cap1] w fun e w' => e = .returned (.bool true) ∧ Below w.heap.size w w' := by
  obtain ⟨p0, o0, i0⟩ := its_of l0 w0
  obtain ⟨p1, o1, i1⟩ := its_of l1 w1
  have n0 : (0 : Int) ≤ (n : Int) := Int.natCast_nonneg _
  have m0 : (0 : Int) ≤ (m : Int) := Int.natCast_nonneg _
  by_cases hn : 1048576 < n
  · have tn : decide ((1048576 : Int) < (n : Int)) = true := decide_eq_true (by omega)
    clear l0 w0 l1 w1 i0 i1
    go_enter Try.func4, Try.ntmps4
    go_wp2_with fail
    go_ret
    exact ⟨rfl, Below.refl _ _⟩
  have tn : decide ((1048576 : Int) < (n : Int)) = false := decide_eq_false (by omega)
  by_cases hm : 1048576 < m
  · have tm : decide ((1048576 : Int) < (m : Int)) = true := decide_eq_true (by omega)
    clear l0 w0 l1 w1 i0 i1
    go_enter Try.func4, Try.ntmps4
    go_wp2_with fail
    go_ret
    exact ⟨rfl, Below.refl _ _⟩
  have tm : decide ((1048576 : Int) < (m : Int)) = false := decide_eq_false (by omega)
  have HT0 := hide (fun W (hW : Below w.heap.size w W) => it_to a0 p0 o0 n cap0 z0 W l0 (by omega) (i0.bel hW))
  have HT1 := hide (fun W (hW : Below w.heap.size w W) => it_to a1 p1 o1 m cap1 z1 W l1 (by omega) (i1.bel hW))
  have HM := hide (fun (g g' : Nat) (W : World) (k : iblk W g 3 z0) (k' : iblk W g' 3 z1) => bnM_any (some ⟨g, 0, none⟩) (some ⟨g', 0, none⟩) g 0 g' 0 n m n m z0 z1 W l0 l1 (by omega) (by omega) k.its k'.its)
  have HP := hide (fun (g g' : Nat) (W : World) (k : iblk W g 3 z0) (k' : iblk W g' 3 z1) => bnP_any (some ⟨g, 0, none⟩) (some ⟨g', 0, none⟩) g 0 g' 0 n m n m z0 z1 W l0 l1 (by omega) (by omega) k.its k'.its)
  have HE0 := hide (fun (g g' : Nat) (W : World) (k : iblk W g 3 z0) (k' : iblk W g' 3 z0) => it_same (some ⟨g, 0, none⟩) (some ⟨g', 0, none⟩) g 0 g' 0 n n n z0 W l0 (by omega) k.its k'.its)
  have HE1 := hide (fun (g g' : Nat) (W : World) (k : iblk W g 3 z1) (k' : iblk W g' 3 z1) => it_same (some ⟨g, 0, none⟩) (some ⟨g', 0, none⟩) g 0 g' 0 m m m z1 W l1 (by omega) k.its k'.its)
  have HK0 := hide (fun (g : Nat) (W : World) (k : iblk W g 3 z0) => it_mark (some ⟨g, 0, none⟩) g n n z0 1 W l0 (by omega) (by omega) (by omega) (fun _ => ⟨rfl, k⟩))
  have HK1 := hide (fun (g : Nat) (W : World) (k : iblk W g 3 z1) => it_mark (some ⟨g, 0, none⟩) g m m z1 (1 + (n : Int)) W l1 (by omega) (by omega) (by omega) (fun _ => ⟨rfl, k⟩))
  have hl41 := bnL_len z0 z1
  have hfl := fl2_len (bnL z0 z1)
  generalize fl2 (bnL z0 z1) = F at *
  generalize (bnL z0 z1).length = M at *
  generalize (bnK z0 z1).1 = K1 at *
  generalize (bnK z0 z1).2 = K2 at *
  have HQ := hide (fun (ua ub : Option Addr) (ca cb B B' : Nat) (X : World) (h1 : Row X B 32 2 (.slice ua M ca) M F) (h2 : Row X B' 32 2 (.slice ub M cb) M F) => pt_same ua ub (bo ua) 0 (bo ub) 0 M ca cb F X hfl (by omega) h1.pts h2.pts)
  have HKG := hide (fun (B : Nat) (v : Value) (X : World) (hr : Row X B 32 2 v M F) => pt_markR B M v F 1 X (by omega) (by omega) (by omega) hr)
  have HHG := hide (fun (ug : Option Addr) (cg B : Nat) (X : World) (hr : Row X B 32 2 (.slice ug M cg) M (marks 1 (M * 2))) => pt_held ug (bo ug) M cg 1 X (by omega) (by omega) (by omega) (fun h => ⟨(hr.pts h).1, (hr.pts h).2.2⟩))
  have s1 : (K1 != K1) = false := by simp
  have s2 : (K2 != K2) = false := by simp
  have t3 : decide ((1 : Int) + (n : Int) + (m : Int) < 0) = false := decide_eq_false (by omega)
  have t4 : decide ((1 : Int) + (M : Int) * 2 < 0) = false := decide_eq_false (by omega)
  have t5 : ((1 : Int) + (M : Int) * 2 != 1 + (M : Int) * 2) = false := by simp
  clear i0 i1 l0 l1 w0 w1 hn hm hfl hl41
  go_enter Try.func4, Try.ntmps4
  go_wp2_with fail
  refine (unhide HT0 _ (Below.refl _ _)).mono ?_
  rintro e W0 ⟨⟨h0, rfl, hg0, k0⟩, hb0⟩
  have K0 := hide k0
  have B0 := hide hb0
  clear k0 hb0 hg0
  go_wp2_with fail
  refine (unhide HT1 _ (unhide B0)).mono ?_
  rintro e X1 ⟨⟨h1, rfl, hg1, k1⟩, hb1⟩
  have K0 := hide ((unhide K0).bel hb1)
  have K1' := hide k1
  have B1 := hide (bc (unhide B0) hb1)
  clear k1 hb1 hg1
  go_wp2_with fail
  refine (unhide HM _ _ _ (unhide K0) (unhide K1')).mono ?_
  rintro e X2 ⟨⟨vw, rfl, hrw⟩, hb2⟩
  obtain ⟨uw, cw, rfl, _⟩ := hrw.form
  have HRW := hide (hrw.mono (B' := w.heap.size) (unhide B1).size)
  have HOW := hide hrw.olt
  have B2 := hide (bc (unhide B1) hb2)
  clear hb2 K0 K1' hrw
  go_wp2_with fail
  refine (unhide HT0 _ (unhide B2)).mono ?_
  rintro e X3 ⟨⟨g0, rfl, hg0, k0⟩, hb3⟩
  have HRW := hide ((unhide HRW).below hb3)
  have K0 := hide k0
  have l0 := k0.lt
  have B3 := hide (bc (unhide B2) hb3)
  have HOW : Hid (∀ b, (Value.slice uw M cw).ownBlock = some b → b < g0) := hide (fun b e => Nat.lt_of_lt_of_le (unhide HOW b e).2 hg0)
  have g0w : w.heap.size ≤ g0 := Nat.le_trans (unhide B2).size hg0
  clear k0 hb3 hg0
  go_wp2_with fail
  refine (unhide HT1 _ (unhide B3)).mono ?_
  rintro e X4 ⟨⟨g1, rfl, hg1, k1⟩, hb4⟩
  have HRW := hide ((unhide HRW).below hb4)
  have K0 := hide ((unhide K0).bel hb4)
  have K1' := hide k1
  have l1 := k1.lt
  have B4 := hide (bc (unhide B3) hb4)
  have g01 : g0 < g1 := by omega
  clear k1 hb4 hg1
  go_wp2_with fail
  refine (unhide HP _ _ _ (unhide K0) (unhide K1')).mono ?_
  rintro e X5 ⟨⟨vg, rfl, hrg⟩, hb5⟩
  obtain ⟨ug, cg, rfl, _⟩ := hrg.form
  have K0 := hide ((unhide K0).bel hb5)
  have K1' := hide ((unhide K1').bel hb5)
  have HS : Hid (Bs w g0 g1 X4.heap.size uw ug M cw cg F F X5) := hide ⟨bc (unhide B4) hb5, (unhide HRW).below hb5, hrg, unhide HOW, g0w, g01, l1⟩
  clear hb5 hrg HRW HOW B0 B1 B2 B3 B4 g0w l0
  go_wp2_with fail
  refine (unhide HQ _ _ _ _ _ _ _ (unhide HS).rg (unhide HS).rw).mono ?_
  rintro e X6 ⟨rfl, hb6⟩
  have K0 := hide ((unhide K0).bel hb6)
  have K1' := hide ((unhide K1').bel hb6)
  have HS := hide ((unhide HS).next hb6)
  clear hb6
  go_wp2_with fail
  refine (unhide HT0 _ (unhide HS).bel).mono ?_
  rintro e X7 ⟨⟨g4, rfl, hg4, k4⟩, hb7⟩
  have K0 := hide ((unhide K0).bel hb7)
  have K1' := hide ((unhide K1').bel hb7)
  have HS := hide ((unhide HS).next hb7)
  have K4 := hide k4
  clear hb7 k4 hg4
  go_wp2_with fail
  refine (unhide HE0 _ _ _ (unhide K0) (unhide K4)).mono ?_
  rintro e X8 ⟨rfl, hb8⟩
  have K0 := hide ((unhide K0).bel hb8)
  have K1' := hide ((unhide K1').bel hb8)
  have HS := hide ((unhide HS).next hb8)
  clear hb8 K4
  go_wp2_with fail
  refine (unhide HT1 _ (unhide HS).bel).mono ?_
  rintro e X9 ⟨⟨g5, rfl, hg5, k5⟩, hb9⟩
  have K0 := hide ((unhide K0).bel hb9)
  have K1' := hide ((unhide K1').bel hb9)
  have HS := hide ((unhide HS).next hb9)
  have K5 := hide k5
  clear hb9 k5 hg5
  go_wp2_with fail
  refine (unhide HE1 _ _ _ (unhide K1') (unhide K5)).mono ?_
  rintro e Y0 ⟨rfl, hc0⟩
  have K0 := hide ((unhide K0).bel hc0)
  have K1' := hide ((unhide K1').bel hc0)
  have HS := hide ((unhide HS).next hc0)
  clear hc0 K5
  go_wp2_with fail
  refine (unhide HK0 _ _ (unhide K0)).mono ?_
  rintro e Y1 ⟨rfl, _, _, hbt⟩
  have K1' := hide ((unhide K1').but hbt (by omega))
  have HS := hide ((unhide HS).mk0 hbt)
  clear hbt K0
  go_wp2_with fail
  refine (unhide HK1 _ _ (unhide K1')).mono ?_
  rintro e Y2 ⟨rfl, _, _, hbt⟩
  have HS := hide ((unhide HS).mk1 hbt)
  clear hbt K1'
  go_wp2_with fail
  refine (unhide HQ _ _ _ _ _ _ _ (unhide HS).rg (unhide HS).rw).mono ?_
  rintro e Y3 ⟨rfl, hb6⟩
  have HS := hide ((unhide HS).next hb6)
  clear hb6
  go_wp2_with fail
  refine (unhide HKG _ _ _ (unhide HS).rg).mono ?_
  rintro e Y4 ⟨rfl, hro, hmo, _⟩
  have HS := hide ((unhide HS).mkG hmo hro)
  clear hro hmo
  go_wp2_with fail
  refine (unhide HHG _ _ _ _ (unhide HS).rg).mono ?_
  rintro e Y5 ⟨rfl, hbd⟩
  have HS := hide ((unhide HS).next hbd.bel)
  clear hbd
  go_wp2_with fail
  refine (unhide HT0 _ (unhide HS).bel).mono ?_
  rintro e Y6 ⟨⟨g6, rfl, hg6, k6⟩, hb7⟩
  have HS := hide ((unhide HS).next hb7)
  have K6 := hide k6
  clear hb7 k6 hg6
  go_wp2_with fail
  refine (unhide HT1 _ (unhide HS).bel).mono ?_
  rintro e Y7 ⟨⟨g7, rfl, hg7, k7⟩, hb7⟩
  have HS := hide ((unhide HS).next hb7)
  have K6 := hide ((unhide K6).bel hb7)
  have K7 := hide k7
  clear hb7 k7 hg7
  go_wp2_with fail
  refine (unhide HP _ _ _ (unhide K6) (unhide K7)).mono ?_
  rintro e Y8 ⟨⟨vh, rfl, hrh⟩, hb8⟩
  obtain ⟨uh, ch, rfl, _⟩ := hrh.form
  have HS := hide ((unhide HS).next hb8)
  have HRH := hide hrh
  clear hb8 hrh
  go_wp2_with fail
  refine (unhide HQ _ _ _ _ _ _ _ (unhide HRH) (unhide HS).rw).mono ?_
  rintro e Y9 ⟨rfl, hb9⟩
  have HS := hide ((unhide HS).next hb9)
  clear hb9
  go_wp2_with fail
  refine (unhide HHG _ _ _ _ (unhide HS).rg).mono ?_
  rintro e Z0 ⟨rfl, hbd⟩
  have HS := hide ((unhide HS).next hbd.bel)
  clear hbd
  go_wp2_with fail
  go_ret
  exact ⟨rfl, (unhide HS).bel⟩

theorem fnExactBent_own : ownKnob Try.prog.godebug = none := by kernel_rfl
theorem fnExactBent_laidOut : laidOutB Try.prog = true := by kernel_rfl

set_option maxRecDepth 100000 in
theorem fnExactBent_lifted (os : Os) (started : os.Started) (H : Type) (enc : TypeId × Value → H) :
    ReturnsInHanded {} Try.checked os 4 .any (Rows.fnExactBentSpec.pre6 enc Try.prog Try.f4 Rows.fnExactBentRow.domain false) (Rows.fnExactBentSpec.post enc Try.prog Try.f4 false true false false) := by
  refine returnsInHanded_of_change (C := Try.checked) fnExactBent_own started (by kernel_rfl) Try.func4
    (ChangeSpec.witness6 (enc := enc) (C := Try.checked) false ⟨#[], #[.slice none 0 0, .slice none 0 0], []⟩ 8 (by kernel_rfl) (by kernel_rfl) (by kernel_rfl) (by kernel_rfl)) ?_
  intro W base args ds gs before hval0 hW hcnd _
  have hval : ∀ (j : Nat) t v, Try.f4.params[j]? = some t → args[j]? = some v → Value.okWide Try.prog W .any base t v := hval0
  have hW' := hW
  obtain ⟨p, q, hA0, hV, rfl, hfz, hnd⟩ := hW
  have hA : DataW.TrodAll enc Try.prog W 0 (fun _ => true) true Try.f4.params.toList args.toList ds p := hA0
  rw [Try.params4] at hA hval
  obtain ⟨v0, vs0, d0, ds0, p0, q0, hargs, rfl, rfl, h0, r0⟩ := trodAll_cons hA
  obtain ⟨v1, vs1, d1, ds1, p1, q1, rfl, rfl, rfl, h1, r1⟩ := trodAll_cons r0
  obtain ⟨rfl, rfl, rfl⟩ := trodAll_nil r1
  obtain rfl : args = #[v0, v1] := by cases args; simp_all
  obtain ⟨rfl, rfl⟩ := trodVars_none hV
  obtain ⟨a0, len0, cap0, rfl⟩ := okWide_slice Try.underlying23 (hval 0 23 v0 rfl rfl)
  have k0 := h0
  have lt0 : ∀ x ∈ p0, x.block < W.heap.size := by obtain ⟨m, hm⟩ := k0; exact DataW.trod_lt m _ _ _ hm
  obtain ⟨z0, b0, l0, w0⟩ : ∃ L : List Int, len0 ≤ 9223372036854775807 ∧ L.length = len0 ∧ (len0 ≠ 0 → ∃ p po, a0 = some ⟨p, po, none⟩ ∧ p < W.heap.size ∧ IntsAt W p po L) := by
    obtain ⟨fuel, hf⟩ := h0
    obtain ⟨u, n, cap, L, hcs, hn, hl, hx⟩ := open_irow Try.underlying23 Try.underlying3 (by kernel_rfl) hf
    simp [Value.cells] at hcs
    obtain ⟨rfl, rfl, rfl⟩ := hcs
    exact ⟨L, hn, hl, hx⟩
  obtain ⟨a1, len1, cap1, rfl⟩ := okWide_slice Try.underlying23 (hval 1 23 v1 rfl rfl)
  have k1 := h1
  have lt1 : ∀ x ∈ p1, x.block < W.heap.size := by obtain ⟨m, hm⟩ := k1; exact DataW.trod_lt m _ _ _ hm
  obtain ⟨z1, b1, l1, w1⟩ : ∃ L : List Int, len1 ≤ 9223372036854775807 ∧ L.length = len1 ∧ (len1 ≠ 0 → ∃ p po, a1 = some ⟨p, po, none⟩ ∧ p < W.heap.size ∧ IntsAt W p po L) := by
    obtain ⟨fuel, hf⟩ := h1
    obtain ⟨u, n, cap, L, hcs, hn, hl, hx⟩ := open_irow Try.underlying23 Try.underlying3 (by kernel_rfl) hf
    simp [Value.cells] at hcs
    obtain ⟨rfl, rfl, rfl⟩ := hcs
    exact ⟨L, hn, hl, hx⟩
  clear hA0 hval0
  refine (fnExactBent_walk a0 len0 cap0 z0 a1 len1 cap1 z1 W b0 l0 w0 b1 l1 w1).mono fun e W' ⟨he, bel⟩ => ?_
  subst he
  exact ⟨_, rfl, _, _, _, [], _, [], hW', trodAll_mk1 (shut_bool Try.underlying4 _), (trodAll_cons_mk (Below.trod fnExactBent_laidOut (by kernel_rfl) (of_decide_eq_true (by kernel_rfl)) k0 bel lt0) (trodAll_cons_mk (Below.trod fnExactBent_laidOut (by kernel_rfl) (of_decide_eq_true (by kernel_rfl)) k1 bel lt1) trodAll_mk0)), rfl, bel.frame _, fun h => by cases h⟩

theorem fnExactBent_over : Rows.fnExactBentRow.holds Try.pinned (OpenSpec.ofChange Rows.fnExactBentSpec) :=
  OpenClaim.holds_of_wide 4 Try.f4 rfl rfl rfl rfl rfl rfl rfl ⟨rfl, rfl, rfl, rfl, rfl⟩ rfl rfl rfl rfl rfl (by kernel_rfl) Try.func4 (by kernel_rfl)
    (of_decide_eq_true (by kernel_rfl)) (by unfold Func.isWrapper; first | (rw [if_pos (by decide +kernel)]; kernel_rfl) | (rw [if_neg (by decide +kernel)]; exact ⟨rfl, rfl⟩))
    (fun os started H enc _ => fnExactBent_lifted os started H enc)

/-- The statement, as it was given. -/
theorem fnExactBent_holds : Rows.FnExactBentSaid := fnExactBent_over
#print axioms fnExactBent_holds
end Go.Proofs.Ytimkinpbimangaa
