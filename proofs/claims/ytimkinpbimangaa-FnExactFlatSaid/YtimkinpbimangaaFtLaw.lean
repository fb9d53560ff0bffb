/-
  The program's Flat answers as the model at every list of points, right or not; it changes none; its answers lie in memory of their own.
-/
import Derived.Test.YtimkinpbimangaaFtF
import Derived.Test.YtimkinpbimangaaFmF
import Derived.Test.YtimkinpbimangaaMkIt
import Derived.Test.YtimkinpbimangaaOpenRows
import Derived.Test.YtimkinpbimangaaChecked
import Derived.Test.YtimkinpbimangaaRows
import Derived.ChangeOld
import Derived.Lib.SmallJoins
namespace Go.Proofs.Ytimkinpbimangaa
open Go.ChangeShapes Go.WideShapes Go.ChangeAt Go.RowKit Go.Joins
set_option linter.unusedVariables false
set_option linter.unusedSimpArgs false

theorem ft_len (pts : List Pt) : (ftP pts).length ≤ 4096 ∧ (ftB pts).length ≤ 4096 := by
  have key : ftK pts = 0 → pts.length ≤ 4096 := by
    intro h
    apply Nat.le_of_not_lt
    intro hL
    rw [(ft_long hL).1] at h
    cases h
  unfold ftP ftB
  split
  · rename_i h
    have := key h
    rw [mp_len, mb_len]
    omega
  · simp
/-- what the law has in hand -/
structure Fs (w : World) (gx B2 : Nat) (uw0 uw1 ug0 ug1 : Option Addr) (m0 m1 cw0 cw1 cg0 cg1 : Nat) (P Q PG QG : List Int) (X : World) : Prop where
  bel : Below w.heap.size w X
  w0 : Row X w.heap.size 3 1 (.slice uw0 m0 cw0) m0 P
  w1 : Row X w.heap.size 3 1 (.slice uw1 m1 cw1) m1 Q
  g0 : Row X B2 3 1 (.slice ug0 m0 cg0) m0 PG
  g1 : Row X B2 3 1 (.slice ug1 m1 cg1) m1 QG
  o0 : ∀ b, (Value.slice uw0 m0 cw0).ownBlock = some b → b < gx
  o1 : ∀ b, (Value.slice uw1 m1 cw1).ownBlock = some b → b < gx
  ox : w.heap.size ≤ gx
  oy : gx < B2
  d : Dj (.slice ug0 m0 cg0) (.slice ug1 m1 cg1)
theorem Fs.next {w : World} {gx B2 : Nat} {uw0 uw1 ug0 ug1 : Option Addr} {m0 m1 cw0 cw1 cg0 cg1 : Nat} {P Q : List Int} {PG QG : List Int} {X X' : World} (h : Fs w gx B2 uw0 uw1 ug0 ug1 m0 m1 cw0 cw1 cg0 cg1 P Q PG QG X) (hb : Below X.heap.size X X') : Fs w gx B2 uw0 uw1 ug0 ug1 m0 m1 cw0 cw1 cg0 cg1 P Q PG QG X' :=
  ⟨bc h.bel hb, h.w0.below hb, h.w1.below hb, h.g0.below hb, h.g1.below hb, h.o0, h.o1, h.ox, h.oy, h.d⟩
theorem Fs.mkX {w : World} {gx B2 : Nat} {uw0 uw1 ug0 ug1 : Option Addr} {m0 m1 cw0 cw1 cg0 cg1 : Nat} {P Q : List Int} {PG QG : List Int} {X X' : World} (h : Fs w gx B2 uw0 uw1 ug0 ug1 m0 m1 cw0 cw1 cg0 cg1 P Q PG QG X) (hb : But gx X X') : Fs w gx B2 uw0 uw1 ug0 ug1 m0 m1 cw0 cw1 cg0 cg1 P Q PG QG X' :=
  ⟨h.bel.trans (hb.bel h.ox), h.w0.but hb (fun b e => by have := h.o0 b e; omega), h.w1.but hb (fun b e => by have := h.o1 b e; omega), h.g0.but hb (fun b e => by have := (h.g0.olt b e).1; have := h.oy; omega), h.g1.but hb (fun b e => by have := (h.g1.olt b e).1; have := h.oy; omega), h.o0, h.o1, h.ox, h.oy, h.d⟩
theorem Fs.mk0 {w : World} {gx B2 : Nat} {uw0 uw1 ug0 ug1 : Option Addr} {m0 m1 cw0 cw1 cg0 cg1 : Nat} {P Q : List Int} {PG QG PG' : List Int} {X X' : World} (h : Fs w gx B2 uw0 uw1 ug0 ug1 m0 m1 cw0 cw1 cg0 cg1 P Q PG QG X) (hb : Mo ug0 X X') (hs : B2 ≤ X.heap.size) (hr : Row X' B2 3 1 (.slice ug0 m0 cg0) m0 PG') : Fs w gx B2 uw0 uw1 ug0 ug1 m0 m1 cw0 cw1 cg0 cg1 P Q PG' QG X' := by
  have hB : ∀ a, ug0 = some a → B2 ≤ a.block := fun a e => (h.g0.olt a.block (by subst e; rfl)).1
  have ox := h.ox
  have oy := h.oy
  exact ⟨h.bel.trans (hb.bel (by omega) (fun a e => by have := hB a e; omega)), h.w0.mo hb (fun b e a ea => by have := h.o0 b e; have := hB a ea; omega), h.w1.mo hb (fun b e a ea => by have := h.o1 b e; have := hB a ea; omega), hr, h.g1.mo hb (fun b e a ea => fun eb => h.d a.block (by subst ea; rfl) (by rw [eb]; exact e)), h.o0, h.o1, h.ox, h.oy, h.d⟩
theorem Fs.mk1 {w : World} {gx B2 : Nat} {uw0 uw1 ug0 ug1 : Option Addr} {m0 m1 cw0 cw1 cg0 cg1 : Nat} {P Q : List Int} {PG QG QG' : List Int} {X X' : World} (h : Fs w gx B2 uw0 uw1 ug0 ug1 m0 m1 cw0 cw1 cg0 cg1 P Q PG QG X) (hb : Mo ug1 X X') (hs : B2 ≤ X.heap.size) (hr : Row X' B2 3 1 (.slice ug1 m1 cg1) m1 QG') : Fs w gx B2 uw0 uw1 ug0 ug1 m0 m1 cw0 cw1 cg0 cg1 P Q PG QG' X' := by
  have hB : ∀ a, ug1 = some a → B2 ≤ a.block := fun a e => (h.g1.olt a.block (by subst e; rfl)).1
  have ox := h.ox
  have oy := h.oy
  exact ⟨h.bel.trans (hb.bel (by omega) (fun a e => by have := hB a e; omega)), h.w0.mo hb (fun b e a ea => by have := h.o0 b e; have := hB a ea; omega), h.w1.mo hb (fun b e a ea => by have := h.o1 b e; have := hB a ea; omega), h.g0.mo hb (fun b e a ea => fun eb => h.d b e (by subst ea; rw [← eb]; rfl)), hr, h.o0, h.o1, h.ox, h.oy, h.d⟩
set_option maxHeartbeats 8000000 in
set_option maxRecDepth 100000 in
theorem fnExactFlat_walk (a0 : Option Addr) (n cap0 : Nat) (z0 : List Int) (w : World) (b0 : n ≤ 9223372036854775807) (l0 : z0.length = n * 2) (w0 : n ≠ 0 → ∃ p po, a0 = some ⟨p, po, none⟩ ∧ p < w.heap.size ∧ IntsAt w p po z0) :
    Calls Try.prog 5 #[.slice a0 n cap0] w fun e w' => e = .returned (.bool true) ∧ Below w.heap.size w w' := by
  have n0 : (0 : Int) ≤ (n : Int) := Int.natCast_nonneg _
  by_cases hn : 1048576 < n
  · have HZ := hide (fun X => pt_sz_out a0 n cap0 1048576 X (by omega) (by omega) (by omega) b0)
    clear l0 w0
    go_enter Try.func5, Try.ntmps5
    go_wp2_with fail
    refine (unhide HZ _).mono ?_
    rintro e W0 ⟨rfl, hq⟩
    rw [hq]
    clear hq W0
    go_wp2_with fail
    go_ret
    exact ⟨rfl, Below.refl _ _⟩
  have HZ := hide (fun X => pt_sz_in a0 n cap0 1048576 X (by omega) (by omega))
  have tz : decide ((1048576 : Int) - (n : Int) < 0) = false := decide_eq_false (by omega)
  obtain ⟨p0, o0, i0⟩ : ∃ p po, n ≠ 0 → a0 = some ⟨p, po, none⟩ ∧ p < w.heap.size ∧ IntsAt w p po z0 := by
    by_cases h0 : n = 0
    · exact ⟨0, 0, fun h => absurd h0 h⟩
    · obtain ⟨p, po, h⟩ := w0 h0
      exact ⟨p, po, fun _ => h⟩
  obtain ⟨pts, hpf, hpl⟩ := fl2_of n z0 l0
  have HT := hide (fun W (hW : Below w.heap.size w W) => pt_to a0 p0 o0 n cap0 z0 W l0 (by omega) (fun h => ⟨(i0 h).1, Nat.lt_of_lt_of_le (i0 h).2.1 hW.size, (i0 h).2.2.below hW (i0 h).2.1⟩))
  have HM := hide (fun (g : Nat) (W : World) (k : iblk W g 32 z0) => ftM_any g 0 n n pts W hpl (by omega) (Nat.le_refl _) k.lt (by rw [hpf]; exact k.ints))
  have HP := hide (fun (g : Nat) (W : World) (k : iblk W g 32 z0) => ftP_any g 0 n n pts W hpl (by omega) (Nat.le_refl _) k.lt (by rw [hpf]; exact k.ints))
  have HE := hide (fun (g g' : Nat) (W : World) (k : iblk W g 32 z0) (k' : iblk W g' 32 z0) => pt_same (some ⟨g, 0, none⟩) (some ⟨g', 0, none⟩) g 0 g' 0 n n n z0 W l0 (by omega) (fun _ => ⟨rfl, k.lt, k.ints⟩) (fun _ => ⟨rfl, k'.lt, k'.ints⟩))
  have HK := hide (fun (g : Nat) (W : World) (k : iblk W g 32 z0) => pt_mark (some ⟨g, 0, none⟩) g n n z0 1 W l0 (by omega) (by omega) (by omega) (fun _ => ⟨rfl, k⟩))
  unfold FmAns at HM
  unfold FtAns at HP
  have hlen := ft_len pts
  generalize ftK pts = K1 at *
  generalize ftP pts = P at *
  generalize ftB pts = Q at *
  generalize hm0 : P.length = m0 at *
  generalize hm1 : Q.length = m1 at *
  obtain ⟨hm0', hm1'⟩ := hlen
  have HS0 := hide (fun (ua ub : Option Addr) (ca cb B B' : Nat) (X : World) (h1 : Row X B 3 1 (.slice ua m0 ca) m0 P) (h2 : Row X B' 3 1 (.slice ub m0 cb) m0 P) => it_same ua ub (bo ua) 0 (bo ub) 0 m0 ca cb P X hm0 (by omega) h1.its h2.its)
  have HS1 := hide (fun (ua ub : Option Addr) (ca cb B B' : Nat) (X : World) (h1 : Row X B 3 1 (.slice ua m1 ca) m1 Q) (h2 : Row X B' 3 1 (.slice ub m1 cb) m1 Q) => it_same ua ub (bo ua) 0 (bo ub) 0 m1 ca cb Q X hm1 (by omega) h1.its h2.its)
  have HK0 := hide (fun (ug : Option Addr) (cg B : Nat) (X : World) (hr : Row X B 3 1 (.slice ug m0 cg) m0 P) => it_markR ug B m0 cg P 1 X (by omega) (by omega) (by omega) hr)
  have HK1 := hide (fun (ug : Option Addr) (cg B : Nat) (X : World) (hr : Row X B 3 1 (.slice ug m1 cg) m1 Q) => it_markR ug B m1 cg Q (1 + (m0 : Int)) X (by omega) (by omega) (by omega) hr)
  have HH0 := hide (fun (ug : Option Addr) (cg B : Nat) (X : World) (hr : Row X B 3 1 (.slice ug m0 cg) m0 (marks 1 m0)) => it_held ug (bo ug) 0 m0 cg 1 X (by omega) (by omega) (by omega) hr.its)
  have HH1 := hide (fun (ug : Option Addr) (cg B : Nat) (X : World) (hr : Row X B 3 1 (.slice ug m1 cg) m1 (marks (1 + (m0 : Int)) m1)) => it_held ug (bo ug) 0 m1 cg (1 + (m0 : Int)) X (by omega) (by omega) (by omega) hr.its)
  have s1 : (K1 != K1) = false := by simp
  have t3 : decide ((1 : Int) + (n : Int) * 2 < 0) = false := decide_eq_false (by omega)
  have t4 : decide ((1 : Int) + (m0 : Int) < 0) = false := decide_eq_false (by omega)
  have t5 : decide ((1 : Int) + (m0 : Int) + (m1 : Int) < 0) = false := decide_eq_false (by omega)
  have t6 : ((1 : Int) + (m0 : Int) + (m1 : Int) != 1 + (m0 : Int) + (m1 : Int)) = false := by simp
  clear i0 l0 w0 hn hpf hpl hm0 hm1
  go_enter Try.func5, Try.ntmps5
  go_wp2_with fail
  refine (unhide HZ _).mono ?_
  rintro e W0 ⟨rfl, hq⟩
  rw [hq]
  clear hq W0
  go_wp2_with fail
  refine (unhide HT _ (Below.refl _ _)).mono ?_
  rintro e X0 ⟨⟨h0, rfl, hg0, k0⟩, hb0⟩
  have K0 := hide k0
  have B0 := hide hb0
  clear k0 hb0 hg0
  go_wp2_with fail
  refine (unhide HM _ _ (unhide K0)).mono ?_
  rintro e X1 ⟨⟨v0, v1, rfl, hr0, hr1⟩, hb1⟩
  obtain ⟨uw0, cw0, rfl, _⟩ := hr0.form
  obtain ⟨uw1, cw1, rfl, _⟩ := hr1.form
  have HW0 := hide (hr0.mono (B' := w.heap.size) (unhide B0).size)
  have HW1 := hide (hr1.mono (B' := w.heap.size) (unhide B0).size)
  have HO0 := hide hr0.olt
  have HO1 := hide hr1.olt
  have B1 := hide (bc (unhide B0) hb1)
  clear hb1 hr0 hr1 K0
  go_wp2_with fail
  refine (unhide HT _ (unhide B1)).mono ?_
  rintro e X2 ⟨⟨gx, rfl, hgx, kx⟩, hb2⟩
  have HW0 := hide ((unhide HW0).below hb2)
  have HW1 := hide ((unhide HW1).below hb2)
  have KX := hide kx
  have lx := kx.lt
  have B2 := hide (bc (unhide B1) hb2)
  have HO0 : Hid (∀ b, (Value.slice uw0 m0 cw0).ownBlock = some b → b < gx) := hide (fun b e => Nat.lt_of_lt_of_le (unhide HO0 b e).2 hgx)
  have HO1 : Hid (∀ b, (Value.slice uw1 m1 cw1).ownBlock = some b → b < gx) := hide (fun b e => Nat.lt_of_lt_of_le (unhide HO1 b e).2 hgx)
  have gxw : w.heap.size ≤ gx := Nat.le_trans (unhide B1).size hgx
  clear kx hb2 hgx
  go_wp2_with fail
  refine (unhide HP _ _ (unhide KX)).mono ?_
  rintro e X3 ⟨⟨v2, v3, rfl, hr2, hr3, hdj⟩, hb3⟩
  obtain ⟨ug0, cg0, rfl, _⟩ := hr2.form
  obtain ⟨ug1, cg1, rfl, _⟩ := hr3.form
  have KX := hide ((unhide KX).bel hb3)
  have hBX : X2.heap.size ≤ X3.heap.size := hb3.size
  have HS : Hid (Fs w gx X2.heap.size uw0 uw1 ug0 ug1 m0 m1 cw0 cw1 cg0 cg1 P Q P Q X3) := hide ⟨bc (unhide B2) hb3, (unhide HW0).below hb3, (unhide HW1).below hb3, hr2, hr3, unhide HO0, unhide HO1, gxw, lx, hdj⟩
  clear hb3 hr2 hr3 hdj HW0 HW1 HO0 HO1 B0 B1 B2
  generalize X2.heap.size = BX at *
  go_wp2_with fail
  refine (unhide HS0 _ _ _ _ _ _ _ ((unhide HS).g0) ((unhide HS).w0)).mono ?_
  rintro e X4 ⟨rfl, hb⟩
  have HS := hide ((unhide HS).next hb)
  have hBX := Nat.le_trans hBX hb.size
  have KX := hide ((unhide KX).bel hb)
  clear hb
  go_wp2_with fail
  refine (unhide HS1 _ _ _ _ _ _ _ ((unhide HS).g1) ((unhide HS).w1)).mono ?_
  rintro e X5 ⟨rfl, hb⟩
  have HS := hide ((unhide HS).next hb)
  have hBX := Nat.le_trans hBX hb.size
  have KX := hide ((unhide KX).bel hb)
  clear hb
  go_wp2_with fail
  refine (unhide HT _ (unhide HS).bel).mono ?_
  rintro e X6 ⟨⟨gy, rfl, hgg, kk⟩, hb⟩
  have HS := hide ((unhide HS).next hb)
  have hBX := Nat.le_trans hBX hb.size
  have KX := hide ((unhide KX).bel hb)
  have Kgy := hide kk
  clear hb hgg kk
  go_wp2_with fail
  refine (unhide HE _ _ _ (unhide KX) (unhide Kgy)).mono ?_
  rintro e X7 ⟨rfl, hb⟩
  have HS := hide ((unhide HS).next hb)
  have hBX := Nat.le_trans hBX hb.size
  have KX := hide ((unhide KX).bel hb)
  clear hb Kgy
  go_wp2_with fail
  refine (unhide HK _ _ (unhide KX)).mono ?_
  rintro e X8 ⟨rfl, _, hbt⟩
  have HS := hide ((unhide HS).mkX hbt)
  have hBX := Nat.le_trans hBX (Nat.le_of_eq hbt.size)
  clear hbt KX
  go_wp2_with fail
  refine (unhide HS0 _ _ _ _ _ _ _ ((unhide HS).g0) ((unhide HS).w0)).mono ?_
  rintro e X9 ⟨rfl, hb⟩
  have HS := hide ((unhide HS).next hb)
  have hBX := Nat.le_trans hBX hb.size
  clear hb
  go_wp2_with fail
  refine (unhide HS1 _ _ _ _ _ _ _ ((unhide HS).g1) ((unhide HS).w1)).mono ?_
  rintro e X10 ⟨rfl, hb⟩
  have HS := hide ((unhide HS).next hb)
  have hBX := Nat.le_trans hBX hb.size
  clear hb
  go_wp2_with fail
  refine (unhide HK0 _ _ _ _ (unhide HS).g0).mono ?_
  rintro e X11 ⟨rfl, hro, hmo⟩
  have HS := hide ((unhide HS).mk0 hmo hBX hro)
  have hBX := Nat.le_trans hBX hmo.size
  clear hro hmo
  go_wp2_with fail
  refine (unhide HK1 _ _ _ _ (unhide HS).g1).mono ?_
  rintro e X12 ⟨rfl, hro, hmo⟩
  have HS := hide ((unhide HS).mk1 hmo hBX hro)
  have hBX := Nat.le_trans hBX hmo.size
  clear hro hmo
  go_wp2_with fail
  refine (unhide HH0 _ _ _ _ (unhide HS).g0).mono ?_
  rintro e X13 ⟨rfl, hbd⟩
  have HS := hide ((unhide HS).next hbd.bel)
  clear hbd
  go_wp2_with fail
  refine (unhide HH1 _ _ _ _ (unhide HS).g1).mono ?_
  rintro e X14 ⟨rfl, hbd⟩
  have HS := hide ((unhide HS).next hbd.bel)
  clear hbd
  go_wp2_with fail
  refine (unhide HT _ (unhide HS).bel).mono ?_
  rintro e X15 ⟨⟨gz, rfl, hgg, kk⟩, hb⟩
  have HS := hide ((unhide HS).next hb)
  have Kgz := hide kk
  clear hb hgg kk
  go_wp2_with fail
  refine (unhide HP _ _ (unhide Kgz)).mono ?_
  rintro e X16 ⟨⟨v4, v5, rfl, hr4, hr5, _⟩, hb⟩
  obtain ⟨uh0, ch0, rfl, _⟩ := hr4.form
  obtain ⟨uh1, ch1, rfl, _⟩ := hr5.form
  have HS := hide ((unhide HS).next hb)
  have HR4 := hide hr4
  have HR5 := hide hr5
  clear hb hr4 hr5 Kgz
  go_wp2_with fail
  refine (unhide HS0 _ _ _ _ _ _ _ (unhide HR4) ((unhide HS).w0)).mono ?_
  rintro e X17 ⟨rfl, hb⟩
  have HS := hide ((unhide HS).next hb)
  have HR5 := hide ((unhide HR5).below hb)
  clear hb
  go_wp2_with fail
  refine (unhide HS1 _ _ _ _ _ _ _ (unhide HR5) ((unhide HS).w1)).mono ?_
  rintro e X18 ⟨rfl, hb⟩
  have HS := hide ((unhide HS).next hb)
  clear hb
  go_wp2_with fail
  refine (unhide HH0 _ _ _ _ (unhide HS).g0).mono ?_
  rintro e X19 ⟨rfl, hbd⟩
  have HS := hide ((unhide HS).next hbd.bel)
  clear hbd
  go_wp2_with fail
  refine (unhide HH1 _ _ _ _ (unhide HS).g1).mono ?_
  rintro e X20 ⟨rfl, hbd⟩
  have HS := hide ((unhide HS).next hbd.bel)
  clear hbd
  go_wp2_with fail
  go_ret
  exact ⟨rfl, (unhide HS).bel⟩

theorem fnExactFlat_own : ownKnob Try.prog.godebug = none := by kernel_rfl
theorem fnExactFlat_laidOut : laidOutB Try.prog = true := by kernel_rfl

set_option maxRecDepth 100000 in
theorem fnExactFlat_lifted (os : Os) (started : os.Started) (H : Type) (enc : TypeId × Value → H) :
    ReturnsInHanded {} Try.checked os 5 .any (Rows.fnExactFlatSpec.pre6 enc Try.prog Try.f5 Rows.fnExactFlatRow.domain false) (Rows.fnExactFlatSpec.post enc Try.prog Try.f5 false true false false) := by
  refine returnsInHanded_of_change (C := Try.checked) fnExactFlat_own started (by kernel_rfl) Try.func5
    (ChangeSpec.witness6 (enc := enc) (C := Try.checked) false ⟨#[], #[.slice none 0 0], []⟩ 8 (by kernel_rfl) (by kernel_rfl) (by kernel_rfl) (by kernel_rfl)) ?_
  intro W base args ds gs before hval0 hW hcnd _
  have hval : ∀ (j : Nat) t v, Try.f5.params[j]? = some t → args[j]? = some v → Value.okWide Try.prog W .any base t v := hval0
  have hW' := hW
  obtain ⟨p, q, hA0, hV, rfl, hfz, hnd⟩ := hW
  have hA : DataW.TrodAll enc Try.prog W 0 (fun _ => true) true Try.f5.params.toList args.toList ds p := hA0
  rw [Try.params5] at hA hval
  obtain ⟨v0, vs0, d0, ds0, p0, q0, hargs, rfl, rfl, h0, r0⟩ := trodAll_cons hA
  obtain ⟨rfl, rfl, rfl⟩ := trodAll_nil r0
  obtain rfl : args = #[v0] := by cases args; simp_all
  obtain ⟨rfl, rfl⟩ := trodVars_none hV
  obtain ⟨a0, len0, cap0, rfl⟩ := okWide_slice Try.underlying47 (hval 0 47 v0 rfl rfl)
  have k0 := h0
  have lt0 : ∀ x ∈ p0, x.block < W.heap.size := by obtain ⟨m, hm⟩ := k0; exact DataW.trod_lt m _ _ _ hm
  obtain ⟨z0, b0, l0, w0⟩ : ∃ L : List Int, len0 ≤ 9223372036854775807 ∧ L.length = len0 * 2 ∧ (len0 ≠ 0 → ∃ p po, a0 = some ⟨p, po, none⟩ ∧ p < W.heap.size ∧ IntsAt W p po L) := by
    obtain ⟨fuel, hf⟩ := h0
    obtain ⟨u, n, cap, L, hcs, hn, hl, hx⟩ := open_structs Try.underlying47 Try.underlying75 (k := 2) (by kernel_rfl) (by decide) rfl (by kernel_rfl) hf
    simp [Value.cells] at hcs
    obtain ⟨rfl, rfl, rfl⟩ := hcs
    exact ⟨L, hn, hl, hx⟩
  clear hA0 hval0
  refine (fnExactFlat_walk a0 len0 cap0 z0 W b0 l0 w0).mono fun e W' ⟨he, bel⟩ => ?_
  subst he
  exact ⟨_, rfl, _, _, _, [], _, [], hW', trodAll_mk1 (shut_bool Try.underlying4 _), (trodAll_cons_mk (Below.trod fnExactFlat_laidOut (by kernel_rfl) (of_decide_eq_true (by kernel_rfl)) k0 bel lt0) trodAll_mk0), rfl, bel.frame _, fun h => by cases h⟩

theorem fnExactFlat_over : Rows.fnExactFlatRow.holds Try.pinned (OpenSpec.ofChange Rows.fnExactFlatSpec) :=
  OpenClaim.holds_of_wide 5 Try.f5 rfl rfl rfl rfl rfl rfl rfl ⟨rfl, rfl, rfl, rfl, rfl⟩ rfl rfl rfl rfl rfl (by kernel_rfl) Try.func5 (by kernel_rfl)
    (of_decide_eq_true (by kernel_rfl)) (by unfold Func.isWrapper; first | (rw [if_pos (by decide +kernel)]; kernel_rfl) | (rw [if_neg (by decide +kernel)]; exact ⟨rfl, rfl⟩))
    (fun os started H enc _ => fnExactFlat_lifted os started H enc)

/-- The statement, as it was given. -/
theorem fnExactFlat_holds : Rows.FnExactFlatSaid := fnExactFlat_over
#print axioms fnExactFlat_holds
end Go.Proofs.Ytimkinpbimangaa
