/-
  The program's Mill answers as the model at every stock, part, tool and list of moves, right or not, changes none of them, and owns its answer.
-/
import Derived.Test.YtbjljofgpbecbaaMilB
import Derived.Test.YtbjljofgpbecbaaMilC
import Derived.Test.YtbjljofgpbecbaaMdRows
import Derived.Test.YtbjljofgpbecbaaMlr
import Derived.Test.YtbjljofgpbecbaaMvOpen
import Derived.Test.YtbjljofgpbecbaaOpenRows
import Derived.Lib.SmallJoins
namespace Go.Proofs.Ytbjljofgpbecbaa
open Go.ChangeShapes Go.WideShapes Go.ChangeAt Go.RowKit
set_option linter.unusedVariables false
set_option linter.unusedSimpArgs false

theorem nil_row' (w : World) (B : Nat) : Row w B 3 1 (.slice none 0 0) 0 [] := ⟨rfl, .inl ⟨rfl, rfl⟩⟩
theorem fop_nat {Ws Hs Wp Hp : Int} {S T : List Int} (h : stB Ws Hs S Wp Hp T = true) : FOk Ws Hs S ∧ FOk Wp Hp T ∧ Ws = Wp ∧ Hs = Hp := by
  unfold stB pairB at h
  rw [Bool.and_eq_true, decide_eq_true_eq] at h
  exact ⟨h.1.a, h.1.b, h.1.w, h.1.h⟩
theorem fnExactMill_small (Ws Hs : Int) (us : Option Addr) (ns cs : Nat) (S : List Int) (Wp Hp : Int) (up : Option Addr) (np cp : Nat) (T : List Int) (R : Int) (um : Option Addr) (mm cm ps pos pp pop pm pom : Nat) (ms : List Mve) (w : World)
    (hls : S.length = ns) (hus : Its w us ps pos S) (hlp : T.length = np) (hup : Its w up pp pop T) (hlm : ms.length = mm) (hum : Mvs w um pm pom ms) (hbm : ns + np + mm ≤ 1048576) :
    Calls Try.prog 6 #[fldV Ws Hs us ns cs, fldV Wp Hp up np cp, .int .i64 R, .slice um mm cm] w fun e w' => e = .returned (.bool true) ∧ Below w.heap.size w w' := by
  have bad : ∀ E : Int, (∀ (g1 g2 g3 : Nat) (X : World), iblk X g1 3 S → iblk X g2 3 T → Calls Try.prog 12 #[fldV Ws Hs (some ⟨g1, 0, none⟩) ns ns, fldV Wp Hp (some ⟨g2, 0, none⟩) np np, .int .i64 R, .slice (some ⟨g3, 0, none⟩) mm mm] X fun e w' => e = .returned (.agg #[.int .i64 E, .int .i64 0, .int .i64 0, .int .i64 0, .slice none 0 0, .int .i64 0, .int .i64 0, .int .i64 0]) ∧ Below X.heap.size X w') →
      (∀ (g1 g2 g3 : Nat) (X : World), iblk X g1 3 S → iblk X g2 3 T → Calls Try.prog 11 #[fldV Ws Hs (some ⟨g1, 0, none⟩) ns ns, fldV Wp Hp (some ⟨g2, 0, none⟩) np np, .int .i64 R, .slice (some ⟨g3, 0, none⟩) mm mm] X fun e w' => e = .returned (.agg #[.int .i64 E, .int .i64 0, .int .i64 0, .int .i64 0, .slice none 0 0, .int .i64 0, .int .i64 0, .int .i64 0]) ∧ Below X.heap.size X w') →
      Calls Try.prog 6 #[fldV Ws Hs us ns cs, fldV Wp Hp up np cp, .int .i64 R, .slice um mm cm] w fun e w' => e = .returned (.bool true) ∧ Below w.heap.size w w' := by
    intro E h1 h2
    refine fnExactMill_core Ws Hs Wp Hp R E 0 0 0 0 0 0 us up um ps pos ns cs pp pop np cp pm pom mm cm 0 S T [] ms w (by omega) hls hus (by omega) hlp hup hbm hlm hum (by omega) rfl (hide fun g1 g2 g3 X x1 x2 x3 => ?_) (hide fun g1 g2 g3 X x1 x2 x3 => ?_)
    · refine (h1 g1 g2 g3 X x1 x2).mono ?_
      rintro e w' ⟨rfl, hb⟩
      exact ⟨⟨none, 0, rfl, nil_row' _ _⟩, hb⟩
    · refine (h2 g1 g2 g3 X x1 x2).mono ?_
      rintro e w' ⟨rfl, hb⟩
      exact ⟨⟨none, 0, rfl, nil_row' _ _⟩, hb⟩
  by_cases hm1 : 4096 < mm
  · exact bad 2 (fun g1 g2 g3 X x1 x2 => mlM_long Ws Hs Wp Hp R (some ⟨g1, 0, none⟩) (some ⟨g2, 0, none⟩) g1 0 ns ns g2 0 np np S T (some ⟨g3, 0, none⟩) mm mm X hm1) (fun g1 g2 g3 X x1 x2 => mlP_long Ws Hs Wp Hp R (some ⟨g1, 0, none⟩) (some ⟨g2, 0, none⟩) g1 0 ns ns g2 0 np np S T (some ⟨g3, 0, none⟩) mm mm X hm1)
  cases hst : (stB Ws Hs S Wp Hp T && (decide (0 ≤ R) && decide (R ≤ 3))) with
  | false => exact bad 1 (fun g1 g2 g3 X x1 x2 => mlM_bad Ws Hs Wp Hp R (some ⟨g1, 0, none⟩) (some ⟨g2, 0, none⟩) g1 0 ns ns g2 0 np np S T (some ⟨g3, 0, none⟩) mm mm X (by omega) hls (by omega) x1.its2 hlp (by omega) x2.its2 hst) (fun g1 g2 g3 X x1 x2 => mlP_bad Ws Hs Wp Hp R (some ⟨g1, 0, none⟩) (some ⟨g2, 0, none⟩) g1 0 ns ns g2 0 np np S T (some ⟨g3, 0, none⟩) mm mm X (by omega) hls (by omega) x1.its2 hlp (by omega) x2.its2 hst)
  | true =>
    by_cases hm2 : 2000 < mm
    · exact bad 10 (fun g1 g2 g3 X x1 x2 => mlM_many Ws Hs Wp Hp R (some ⟨g1, 0, none⟩) (some ⟨g2, 0, none⟩) g1 0 ns ns g2 0 np np S T (some ⟨g3, 0, none⟩) mm mm X (by omega) hm2 hls (by omega) x1.its2 hlp (by omega) x2.its2 hst) (fun g1 g2 g3 X x1 x2 => mlP_many Ws Hs Wp Hp R (some ⟨g1, 0, none⟩) (some ⟨g2, 0, none⟩) g1 0 ns ns g2 0 np np S T (some ⟨g3, 0, none⟩) mm mm X (by omega) hm2 hls (by omega) x1.its2 hlp (by omega) x2.its2 hst)
    rw [Bool.and_eq_true, Bool.and_eq_true, decide_eq_true_eq, decide_eq_true_eq] at hst
    obtain ⟨hst, hR0, hR1⟩ := hst
    obtain ⟨o1, o2, rfl, rfl⟩ := fop_nat hst
    obtain ⟨a, b, rfl, rfl, ha1, ha2, hb1, hb2, hlen⟩ := o1.nat
    obtain ⟨r, rfl⟩ : ∃ r : Nat, R = (r : Int) := ⟨R.toNat, by omega⟩
    have hns : ns = a * b := by rw [← hls]; exact hlen
    have hnp : np = ns := by
      obtain ⟨a', b', ea, eb, _, _, _, _, hl'⟩ := o2.nat
      have e1 : a' = a := by omega
      have e2 : b' = b := by omega
      rw [← hlp, hl', e1, e2, hns]
    subst hnp
    have hsm : np ≤ 576 := by rw [hns]; exact Nat.mul_le_mul ha2 hb2
    have hSt := o1.tops_tp
    have hTt := o2.tops_tp
    obtain ⟨i, hi⟩ : ∃ i, MlEnd T a b r S ms i := mlEnd_ex T a b r S ms
    refine fnExactMill_core (a : Int) (b : Int) (a : Int) (b : Int) (r : Int) (mlC T a b r S ms i) (mlB ms i) a b (mlK T a b r S ms i).2.cut (mlK T a b r S ms i).2.air (mlK T a b r S ms i).2.dep us up um ps pos np cs pp pop np cp pm pom mm cm np S T (mlK T a b r S ms i).2.T ms w (by omega) hls hus (by omega) hlp hup hbm hlm hum hsm (mlK_ok (by omega) ha1 ha2 hb1 hb2 hns hls hSt i hi.go).ok.len (hide fun g1 g2 g3 X x1 x2 x3 => ?_) (hide fun g1 g2 g3 X x1 x2 x3 => ?_)
    · refine (mlM_good a b r g1 0 np g2 0 np np S T (some ⟨g3, 0, none⟩) g3 0 mm mm ms X ha1 ha2 hb1 hb2 (by omega) hns ⟨x1.lt, x1.ints, hls, Nat.le_refl _, by omega⟩ ⟨x2.lt, x2.ints, hlp, Nat.le_refl _, by omega⟩ hSt hTt hst hlm (by omega) x3.mvs).mono ?_
      rintro e w' ⟨⟨i', q, cap, hi', rfl, hr⟩, hb'⟩
      obtain rfl := hi'.uniq hi
      exact ⟨⟨_, _, rfl, hr⟩, hb'⟩
    · refine (mlP_good a b r g1 0 np g2 0 np np S T (some ⟨g3, 0, none⟩) g3 0 mm mm ms X ha1 ha2 hb1 hb2 (by omega) hns ⟨x1.lt, x1.ints, hls, Nat.le_refl _, by omega⟩ ⟨x2.lt, x2.ints, hlp, Nat.le_refl _, by omega⟩ hSt hTt hst hlm (by omega) x3.mvs).mono ?_
      rintro e w' ⟨⟨i', q, cap, hi', rfl, hr⟩, hb'⟩
      obtain rfl := hi'.uniq hi
      exact ⟨⟨_, _, rfl, hr⟩, hb'⟩
theorem mv_sz_out (u : Option Addr) (n cu : Nat) (k : Int) (w : World) (k0 : k < (n : Int)) (k2 : 0 ≤ k) (k1 : k ≤ 1048576) (hn : n ≤ 9223372036854775807) :
    Calls Try.prog 24 #[.slice u n cu, .int .i64 k] w fun e w' => e = .returned (.int .i64 (-1)) ∧ w' = w := by
  have n0 : (0 : Int) ≤ (n : Int) := Int.natCast_nonneg _
  have t : decide (k - (n : Int) < 0) = true := decide_eq_true (by omega)
  go_enter Try.func24, Try.ntmps24
  go_wp2
  go_ret
  exact ⟨rfl, rfl⟩
set_option maxHeartbeats 2000000 in
set_option maxRecDepth 100000 in
theorem fnExactMill_big (Ws Hs : Int) (us : Option Addr) (ns cs : Nat) (Wp Hp : Int) (up : Option Addr) (np cp : Nat) (R : Int) (um : Option Addr) (mm cm : Nat) (w : World)
    (hns : ns ≤ 9223372036854775807) (hnp : np ≤ 9223372036854775807) (hmm : mm ≤ 9223372036854775807) (hbm : ¬ ns + np + mm ≤ 1048576) :
    Calls Try.prog 6 #[fldV Ws Hs us ns cs, fldV Wp Hp up np cp, .int .i64 R, .slice um mm cm] w fun e w' => e = .returned (.bool true) ∧ Below w.heap.size w w' := by
  have HB0 := hide (ba (ba (Below.refl w.heap.size w) (.cells #[.int .i64 Ws, .int .i64 Hs, .slice us ns cs] 42)) (.cells #[.int .i64 Wp, .int .i64 Hp, .slice up np cp] 42))
  have HV5 := hide (vb_new2 w 42 [.int .i64 Wp, .int .i64 Hp, .slice up np cp] (.cells #[.int .i64 Ws, .int .i64 Hs, .slice us ns cs] 42))
  by_cases h1 : ns ≤ 1048576
  · have HZ1 := hide (fun X => fd_sz_in Ws Hs us ns cs 1048576 X (by omega) (by omega))
    have t1 : decide ((1048576 : Int) - (ns : Int) < 0) = false := decide_eq_false (by omega)
    by_cases h2 : ns + np ≤ 1048576
    · have HZ2 := hide (fun X => fd_sz_in Wp Hp up np cp (1048576 - (ns : Int)) X (by omega) (by omega))
      have HZ3 := hide (fun X => mv_sz_out um mm cm (1048576 - (ns : Int) - (np : Int)) X (by omega) (by omega) (by omega) hmm)
      have t2 : decide ((1048576 : Int) - (ns : Int) - (np : Int) < 0) = false := decide_eq_false (by omega)
      unfold fldV at *
      go_enter Try.func6, Try.ntmps6
      go_wp2_with fail
      generalize (w.alloc (.cells #[.int .i64 Ws, .int .i64 Hs, .slice us ns cs] 42)).alloc (.cells #[.int .i64 Wp, .int .i64 Hp, .slice up np cp] 42) = Wa at *
      refine (unhide HZ1 _).mono ?_
      rintro e W0 ⟨rfl, hb0⟩
      have k0 := ((unhide HV5).bel hb0).cell (m := 0) rfl
      have k1 := ((unhide HV5).bel hb0).cell (m := 1) rfl
      have k2 := ((unhide HV5).bel hb0).cell (m := 2) rfl
      have HBa := hide (bc (unhide HB0) hb0)
      clear hb0
      go_wp2_with fail
      refine (unhide HZ2 _).mono ?_
      rintro e W1 ⟨rfl, hb1⟩
      have HBb := hide (bc (unhide HBa) hb1)
      clear hb1 k0 k1 k2
      go_wp2_with fail
      refine (unhide HZ3 _).mono ?_
      rintro e W2 ⟨rfl, rfl⟩
      go_wp2_with fail
      go_ret
      exact ⟨rfl, unhide HBb⟩
    · have HZ2 := hide (fun X => fd_sz_out Wp Hp up np cp (1048576 - (ns : Int)) X (by omega) (by omega) (by omega) hnp)
      unfold fldV at *
      go_enter Try.func6, Try.ntmps6
      go_wp2_with fail
      generalize (w.alloc (.cells #[.int .i64 Ws, .int .i64 Hs, .slice us ns cs] 42)).alloc (.cells #[.int .i64 Wp, .int .i64 Hp, .slice up np cp] 42) = Wa at *
      refine (unhide HZ1 _).mono ?_
      rintro e W0 ⟨rfl, hb0⟩
      have k0 := ((unhide HV5).bel hb0).cell (m := 0) rfl
      have k1 := ((unhide HV5).bel hb0).cell (m := 1) rfl
      have k2 := ((unhide HV5).bel hb0).cell (m := 2) rfl
      have HBa := hide (bc (unhide HB0) hb0)
      clear hb0
      go_wp2_with fail
      refine (unhide HZ2 _).mono ?_
      rintro e W1 ⟨rfl, hb1⟩
      have HBb := hide (bc (unhide HBa) hb1)
      clear hb1 k0 k1 k2
      go_wp2_with fail
      go_ret
      exact ⟨rfl, unhide HBb⟩
  · have HZ1 := hide (fun X => fd_sz_out Ws Hs us ns cs 1048576 X (by omega) (by omega) (by omega) hns)
    unfold fldV at *
    go_enter Try.func6, Try.ntmps6
    go_wp2_with fail
    generalize (w.alloc (.cells #[.int .i64 Ws, .int .i64 Hs, .slice us ns cs] 42)).alloc (.cells #[.int .i64 Wp, .int .i64 Hp, .slice up np cp] 42) = Wa at *
    refine (unhide HZ1 _).mono ?_
    rintro e W0 ⟨rfl, hb0⟩
    have HBa := hide (bc (unhide HB0) hb0)
    clear hb0
    go_wp2_with fail
    go_ret
    exact ⟨rfl, unhide HBa⟩
theorem its_of' {w : World} {u : Option Addr} {n : Nat} {L : List Int} (hl : L.length = n) (hx : n ≠ 0 → ∃ p po, u = some ⟨p, po, none⟩ ∧ p < w.heap.size ∧ IntsAt w p po L) : ∃ p po, Its w u p po L := by
  by_cases h : n = 0
  · exact ⟨0, 0, fun h0 => absurd (List.eq_nil_of_length_eq_zero (by omega)) h0⟩
  · obtain ⟨p, po, h1, h2, h3⟩ := hx h
    exact ⟨p, po, fun _ => ⟨h1, h2, h3⟩⟩
theorem fnExactMill_walk (Ws Hs : Int) (us : Option Addr) (ns cs : Nat) (S : List Int) (Wp Hp : Int) (up : Option Addr) (np cp : Nat) (T : List Int) (R : Int) (um : Option Addr) (mm cm pm pom : Nat) (ms : List Mve) (w : World)
    (hns : ns ≤ 9223372036854775807) (hls : S.length = ns) (hxs : ns ≠ 0 → ∃ p po, us = some ⟨p, po, none⟩ ∧ p < w.heap.size ∧ IntsAt w p po S)
    (hnp : np ≤ 9223372036854775807) (hlp : T.length = np) (hxp : np ≠ 0 → ∃ p po, up = some ⟨p, po, none⟩ ∧ p < w.heap.size ∧ IntsAt w p po T)
    (wR : (Lit.int IntKind.i64 R).wf = true) (hmm : mm ≤ 9223372036854775807) (hlm : ms.length = mm) (hum : Mvs w um pm pom ms) :
    Calls Try.prog 6 #[fldV Ws Hs us ns cs, fldV Wp Hp up np cp, .int .i64 R, .slice um mm cm] w fun e w' => e = .returned (.bool true) ∧ Below w.heap.size w w' := by
  obtain ⟨ps, pos, hus⟩ := its_of' hls hxs
  obtain ⟨pp, pop, hup⟩ := its_of' hlp hxp
  by_cases hbm : ns + np + mm ≤ 1048576
  · exact fnExactMill_small Ws Hs us ns cs S Wp Hp up np cp T R um mm cm ps pos pp pop pm pom ms w hls hus hlp hup hlm hum hbm
  · exact fnExactMill_big Ws Hs us ns cs Wp Hp up np cp R um mm cm w hns hnp hmm hbm
end Go.Proofs.Ytbjljofgpbecbaa
