/-
  A drawn stock, part and tool that go together.
-/
import Derived.Test.YtjhldjojkaphkaaJob
import Derived.Test.YtjhldjojkaphkaaPrsM
import Derived.Test.YtjhldjojkaphkaaJo7
namespace Go.Proofs.Ytjhldjojkaphkaa
open Go.ChangeShapes Go.WideShapes Go.ChangeAt Go.RowKit
set_option linter.unusedVariables false
set_option linter.unusedSimpArgs false

theorem codeUp {w X : World} {a : Option Addr} {len cap : Nat} {zs : List Int} (h : Code w.heap.size w a len cap zs) (hX : Below w.heap.size w X) : Code X.heap.size X a len cap zs := by
  rcases h with h | ⟨b, off, e, h1, h2, h3, h4, h5, h6, h7⟩
  · exact .inl h
  · exact .inr ⟨b, off, e, Nat.lt_of_lt_of_le h1 hX.size, Nat.lt_of_lt_of_le h1 hX.size, h3, h4, h5, fun i hi => (hX.cell (p := ⟨b, off + i, none⟩) h1).trans (h6 i hi), h7⟩
theorem Fd.mq {a b : Nat} {x y : World} {g po n c : Nat} {L : List Int} (h : Fd x g po n c L) (hm : Mq a b x y) (h1 : g ≠ a) (h2 : g ≠ b) : Fd y g po n c L := ⟨Nat.lt_of_lt_of_le h.lt hm.size, hm.ints h.ints h.lt h1 h2, h.len, h.cap, h.top⟩
theorem Mq.bel4 {a b C : Nat} {x y : World} (h : Mq a b x y) (hC : C ≤ x.heap.size) (h1 : C ≤ a) (h2 : C ≤ b) : Below C x y := ⟨h.os, h.tape, h.output, h.size, fun k hk => h.block k (by omega) (by omega) (by omega)⟩
theorem fd_two {X : World} {b : Nat} {x y : Int} (hb : vb X b 3 [.int .i64 x, .int .i64 y]) : Fd X b 0 2 2 [x, y] := by
  refine ⟨hb.lt, fun j z hj => ?_, rfl, Nat.le_refl _, by omega⟩
  rw [Nat.zero_add]
  match j, hj with
  | 0, hj => simp at hj; subst hj; exact hb.cell (m := 0) rfl
  | 1, hj => simp at hj; subst hj; exact hb.cell (m := 1) rfl
  | j + 2, hj => simp at hj
theorem Fq.its {X : World} {u : Option Addr} {n c : Nat} {L : List Int} (h : Fq X u n c L) : ∃ p po, Its X u p po L := by
  by_cases h0 : n = 0
  · exact ⟨0, 0, fun h1 => absurd (List.eq_nil_of_length_eq_zero (by have := h.1; omega)) h1⟩
  · obtain ⟨p, po, e, hf⟩ := h.2.2 h0
    subst e
    exact ⟨p, po, hf.its⟩
/-- a job that is right -/
structure Jok (X : World) (W H r gs pos cs g po c n : Nat) (S P : List Int) : Prop where
  W1 : 1 ≤ W
  W2 : W ≤ 24
  H1 : 1 ≤ H
  H2 : H ≤ 24
  r3 : r ≤ 3
  n_ : n = W * H
  fs : Fd X gs pos n cs S
  fp : Fd X g po n c P
  st : stB W H S W H P = true
theorem Jok.bel {X X' : World} {W H r gs pos cs g po c n : Nat} {S P : List Int} (h : Jok X W H r gs pos cs g po c n S P) (hb : Below X.heap.size X X') : Jok X' W H r gs pos cs g po c n S P := ⟨h.W1, h.W2, h.H1, h.H2, h.r3, h.n_, h.fs.bel hb, h.fp.bel hb, h.st⟩
theorem st_pair {Ws Hs Wp Hp : Int} {S T : List Int} (h : stB Ws Hs S Wp Hp T = true) : FOk Ws Hs S ∧ FOk Wp Hp T ∧ Ws = Wp ∧ Hs = Hp ∧ ∀ i, i < T.length → tp T i ≤ tp S i := by
  unfold stB pairB at h
  rw [Bool.and_eq_true, decide_eq_true_eq] at h
  exact ⟨h.1.a, h.1.b, h.1.w, h.1.h, under_iff.1 h.2⟩
theorem Jok.oks {X : World} {W H r gs pos cs g po c n : Nat} {S P : List Int} (h : Jok X W H r gs pos cs g po c n S P) : FOk W H S ∧ FOk W H P ∧ ∀ i, i < P.length → tp P i ≤ tp S i := by
  obtain ⟨a, b, _, _, c⟩ := st_pair h.st
  exact ⟨a, b, c⟩
/-- what the pair's test tells -/
theorem jok_of {X : World} {Ws Hs Wp Hp R : Int} {us up : Option Addr} {ns cs np cp : Nat} {S P : List Int} (h1 : Fq X us ns cs S) (h2 : Fq X up np cp P) (h : (stB Ws Hs S Wp Hp P && (decide (0 ≤ R) && decide (R ≤ 3))) = true) :
    ∃ W H r gs pos g po : Nat, Ws = (W : Int) ∧ Hs = (H : Int) ∧ Wp = (W : Int) ∧ Hp = (H : Int) ∧ R = (r : Int) ∧ us = some ⟨gs, pos, none⟩ ∧ up = some ⟨g, po, none⟩ ∧ ns = np ∧ Jok X W H r gs pos cs g po cp ns S P := by
  rw [Bool.and_eq_true, Bool.and_eq_true, decide_eq_true_eq, decide_eq_true_eq] at h
  obtain ⟨hst, hR0, hR1⟩ := h
  obtain ⟨o1, o2, rfl, rfl, _⟩ := st_pair hst
  obtain ⟨a, b, rfl, rfl, ha1, ha2, hb1, hb2, hlen⟩ := o1.nat
  have hl2 : P.length = a * b := by
    obtain ⟨a', b', ea, eb, _, _, _, _, hl'⟩ := o2.nat
    have e1 : a' = a := by omega
    have e2 : b' = b := by omega
    rw [hl', e1, e2]
  have hpos : 0 < a * b := Nat.mul_pos ha1 hb1
  have l1 := h1.1
  have l2 := h2.1
  obtain ⟨gs, pos, e1, f1⟩ := h1.2.2 (by omega)
  obtain ⟨g, po, e2, f2⟩ := h2.2.2 (by omega)
  have hnn : np = ns := by omega
  subst hnn
  exact ⟨a, b, R.toNat, gs, pos, g, po, rfl, rfl, rfl, rfl, by omega, e1, e2, rfl, ha1, ha2, hb1, hb2, by omega, by omega, f1, f2, hst⟩
set_option maxHeartbeats 1000000 in
set_option maxRecDepth 100000 in
theorem jobOf_any (a : Option Addr) (len cap : Nat) (zs : List Int) (w : World) (hc : Code w.heap.size w a len cap zs) (hl : len ≤ 9223372036854775807) :
    Calls Try.prog 7 #[.slice a len cap] w fun e w' => (∃ W H r gs pos cs g po c n S P, e = .returned (.tuple #[.agg #[.int .i64 ((W : Nat) : Int), .int .i64 ((H : Nat) : Int), .slice (some ⟨gs, pos, none⟩) n cs], .agg #[.int .i64 (W : Int), .int .i64 (H : Int), .slice (some ⟨g, po, none⟩) n c], .int .i64 ((r : Nat) : Int)]) ∧ Jok w' W H r gs pos cs g po c n S P) ∧ Below w.heap.size w w' := by
  have hb0 : Below w.heap.size w ((w.alloc (.cells #[.int .i64 0, .int .i64 0, .slice none 0 0] 25)).alloc (.cells #[.int .i64 0, .int .i64 0, .slice none 0 0] 25)) := ba (ba (Below.refl _ _) _) _
  have HB0 := hide hb0
  have HV2 := hide (vb_new1 w 25 [.int .i64 0, .int .i64 0, .slice none 0 0] (.cells #[.int .i64 0, .int .i64 0, .slice none 0 0] 25))
  have HV3 := hide (vb_new2 w 25 [.int .i64 0, .int .i64 0, .slice none 0 0] (.cells #[.int .i64 0, .int .i64 0, .slice none 0 0] 25))
  have HSO : Hid (∀ X, Below w.heap.size w X → Calls Try.prog 31 #[.slice a len cap] X fun e w' => e = .returned (.pointer (some ⟨X.heap.size, 0, none⟩)) ∧ Below X.heap.size X w' ∧ So X.heap.size X.heap.size 0 w') := hide (fun X hX => source_any a len cap zs X (codeUp hc hX) hl)
  clear hc hb0
  go_enter Try.func7, Try.ntmps7
  go_wp2_with fail
  generalize (w.alloc (.cells #[.int .i64 0, .int .i64 0, .slice none 0 0] 25)).alloc (.cells #[.int .i64 0, .int .i64 0, .slice none 0 0] 25) = Wa at *
  refine (unhide HSO _ (unhide HB0)).mono ?_
  rintro e W1 ⟨rfl, hb1, hs1⟩
  have HV2a := hide ((unhide HV2).bel hb1)
  have HV3a := hide ((unhide HV3).bel hb1)
  have HB1 := hide (bc (unhide HB0) hb1)
  have HS1 := hide hs1
  have hga : w.heap.size + 2 ≤ Wa.heap.size := (unhide HV3).lt
  clear hb1 hs1 HV2 HV3 HB0
  generalize Wa.heap.size = gS at *
  go_wp2_with fail
  go_loopw [6] (fun zz X => ∃ i : Nat, zz = .int .i64 (i : Int) ∧ i ≤ 3 ∧ So gS gS (9000 * (i : Int)) X ∧ vb X w.heap.size 25 [.int .i64 0, .int .i64 0, .slice none 0 0] ∧ vb X (w.heap.size + 1) 25 [.int .i64 0, .int .i64 0, .slice none 0 0] ∧ Below w.heap.size w X) (fun zz _ => 3 - (intOf zz).toNat)
  case atStart => exact ⟨0, rfl, by omega, by simpa using unhide HS1, unhide HV2a, unhide HV3a, unhide HB1⟩
  case round =>
    obtain ⟨i, rfl, hi, hso, hv2, hv3, hw⟩ := hrel
    have HS := hide hso
    have H2 := hide hv2
    have H3 := hide hv3
    have HW := hide hw
    clear hso hv2 hv3 hw HS1 HV2a HV3a HB1
    by_cases hc : i < 3
    · have lz := decide_eq_true (show (i : Int) < 3 by omega)
      go_wp2_with fail
      refine (job_any (k := 9000 * (i : Int)) (unhide HS) (by omega)).mono ?_
      rintro e W2 ⟨Ws, Hs, us, ns, cs, S, Wp, Hp, up, np, cp, P, R, rfl, hfs, hfp, hso, hmv, hbs, hbp⟩
      have hA : Below W2.heap.size W2 ((W2.alloc (.cells #[.int .i64 Ws, .int .i64 Hs, .slice us ns cs] 25)).alloc (.cells #[.int .i64 Wp, .int .i64 Hp, .slice up np cp] 25)) := ba (ba (Below.refl _ _) _) _
      have HFS := hide (hfs.bel hA)
      have HFP := hide (hfp.bel hA)
      have HSn := hide (hso.bel hA)
      have H2n := hide (((unhide H2).mv hmv (by omega)).bel hA)
      have H3n := hide (((unhide H3).mv hmv (by omega)).bel hA)
      have hsz2 := (unhide HW).size
      have HWn := hide (bc ((unhide HW).trans (Mv.bel (Below.refl _ _) hmv (by omega) hsz2)) hA)
      have H7 := hide (vb_new1 W2 25 [.int .i64 Ws, .int .i64 Hs, .slice us ns cs] (.cells #[.int .i64 Wp, .int .i64 Hp, .slice up np cp] 25))
      have H8 := hide (vb_new2 W2 25 [.int .i64 Wp, .int .i64 Hp, .slice up np cp] (.cells #[.int .i64 Ws, .int .i64 Hs, .slice us ns cs] 25))
      have hs2 : w.heap.size + 2 ≤ W2.heap.size := Nat.le_trans (unhide H3).lt hmv.size
      have hs3 : w.heap.size + 2 ≤ wr.heap.size := (unhide H3).lt
      clear hfs hfp hso hmv hA HS H2 H3 HW
      go_upto_region 6 with fail
      generalize (W2.alloc (.cells #[.int .i64 Ws, .int .i64 Hs, .slice us ns cs] 25)).alloc (.cells #[.int .i64 Wp, .int .i64 Hp, .slice up np cp] 25) = Wb at *
      generalize W2.heap.size = b7 at *
      obtain ⟨ps, pos, hits⟩ := (unhide HFS).its
      obtain ⟨pp, pop, hitp⟩ := (unhide HFP).its
      have HPR := hide (prM_any R Ws Hs us ps pos ns cs S Wp Hp up pp pop np cp P Wb (unhide HFS).1 (by have := (unhide HFS).2.1; omega) hits (unhide HFP).1 (by have := (unhide HFP).2.1; omega) hitp)
      have c0 := (unhide H7).cell (m := 0) rfl
      have c1 := (unhide H7).cell (m := 1) rfl
      have c2 := (unhide H7).cell (m := 2) rfl
      have d0 := (unhide H8).cell (m := 0) rfl
      have d1 := (unhide H8).cell (m := 1) rfl
      have d2 := (unhide H8).cell (m := 2) rfl
      unfold fldV at HPR
      clear hits hitp
      obtain ⟨ok, hok⟩ : ∃ ok, (stB Ws Hs S Wp Hp P && (decide (0 ≤ R) && decide (R ≤ 3))) = ok := ⟨_, rfl⟩
      rw [hok] at HPR
      have HOK := hide hok
      clear hok
      go_wp2_with fail
      refine (unhide HPR).mono ?_
      rintro e Wc ⟨rfl, hbc⟩
      have HFSc := hide ((unhide HFS).bel hbc)
      have HFPc := hide ((unhide HFP).bel hbc)
      have HSc := hide ((unhide HSn).bel hbc)
      have H2c := hide ((unhide H2n).bel hbc)
      have H3c := hide ((unhide H3n).bel hbc)
      have H7c := hide ((unhide H7).bel hbc)
      have H8c := hide ((unhide H8).bel hbc)
      have HWc := hide (bc (unhide HWn) hbc)
      clear hbc HFS HFP HSn H2n H3n H7 H8 HWn HPR c0 c1 c2 d0 d1 d2
      cases ok with
      | false =>
        go_wp2_with fail
        go_roundw
        case rel => exact ⟨i + 1, by simp, hc, (unhide HSc).up (by omega), unhide H2c, unhide H3c, unhide HWc⟩
        case measure => simp only [intOf]; omega
      | true =>
        obtain ⟨W, H, r, gs, po1, g, po2, rfl, rfl, rfl, rfl, rfl, rfl, rfl, rfl, hj⟩ := jok_of (unhide HFSc) (unhide HFPc) (unhide HOK)
        have HJ := hide hj
        clear hj
        go_wp2_with fail
        refine Go.Code.wp_mono (Only.to (fun _ _ h => h)) (jo7 (by omega) (by omega) (by omega) (by omega) H7c H8c H2c H3c (fun y26 y27 y28 Wz hz2 hz3 hmq => ?_))
        have a0 := hz2.cell (m := 0) rfl
        have a1 := hz2.cell (m := 1) rfl
        have a2 := hz2.cell (m := 2) rfl
        have b0 := hz3.cell (m := 0) rfl
        have b1 := hz3.cell (m := 1) rfl
        have b2 := hz3.cell (m := 2) rfl
        have HMQ := hide hmq
        clear hz2 hz3 hmq
        go_wp2_with fail
        (try rw [Exit.noGoto_ret])
        refine bodyPost_ret (v := .tuple #[.agg #[.int .i64 (W : Int), .int .i64 (H : Int), .slice (some ⟨gs, po1, none⟩) ns cs], .agg #[.int .i64 (W : Int), .int .i64 (H : Int), .slice (some ⟨g, po2, none⟩) ns cp], .int .i64 (r : Int)]) (by simp [results, Try.results7, go_sem, a0, a1, a2, b0, b1, b2]) rfl ?_
        have x1 := hbs _ rfl
        have x2 := hbp _ rfl
        simp only at x1 x2
        have hj := unhide HJ
        refine ⟨⟨W, H, r, gs, po1, cs, g, po2, cp, ns, S, P, rfl, hj.W1, hj.W2, hj.H1, hj.H2, hj.r3, hj.n_, hj.fs.mq (unhide HMQ) (by omega) (by omega), hj.fp.mq (unhide HMQ) (by omega) (by omega), hj.st⟩, ?_⟩
        exact (unhide HWc).trans ((unhide HMQ).bel4 (C := w.heap.size) (unhide HWc).size (Nat.le_refl _) (by omega))
    · have lz : decide ((i : Int) < 3) = false := decide_eq_false (by omega)
      have k0 := (unhide H2).cell (m := 0) rfl
      have k1 := (unhide H2).cell (m := 1) rfl
      have k2 := (unhide H2).cell (m := 2) rfl
      have j0 := (unhide H3).cell (m := 0) rfl
      have j1 := (unhide H3).cell (m := 1) rfl
      have j2 := (unhide H3).cell (m := 2) rfl
      have f2 := (unhide H2).frozen
      have f3 := (unhide H3).frozen
      have hlt3 := (unhide H3).lt
      have hlt2 := (unhide H2).lt
      have e0 : w.heap.size ≠ w.heap.size + 1 := by omega
      have e1 : w.heap.size + 1 ≠ w.heap.size := by omega
      have hle0 : w.heap.size ≤ w.heap.size := Nat.le_refl _
      have hle1 : w.heap.size ≤ w.heap.size + 1 := Nat.le_succ _
      have HY2 : Hid (vb ((((((wr.setCell ⟨w.heap.size, 0, none⟩ (.int .i64 2)).setCell ⟨w.heap.size, 1, none⟩ (.int .i64 1)).setCell ⟨w.heap.size, 2, none⟩ (.slice (some ⟨wr.heap.size, 0, none⟩) 2 2)).setCell ⟨w.heap.size + 1, 0, none⟩ (.int .i64 2)).setCell ⟨w.heap.size + 1, 1, none⟩ (.int .i64 1)).setCell ⟨w.heap.size + 1, 2, none⟩ (.slice (some ⟨wr.heap.size + 1, 0, none⟩) 2 2)) w.heap.size 25 [.int .i64 2, .int .i64 1, .slice (some ⟨wr.heap.size, 0, none⟩) 2 2]) := hide ((((((unhide H2).set 0 _).set 1 _).set 2 _).ne e0).ne e0 |>.ne e0)
      have HY3 : Hid (vb ((((((wr.setCell ⟨w.heap.size, 0, none⟩ (.int .i64 2)).setCell ⟨w.heap.size, 1, none⟩ (.int .i64 1)).setCell ⟨w.heap.size, 2, none⟩ (.slice (some ⟨wr.heap.size, 0, none⟩) 2 2)).setCell ⟨w.heap.size + 1, 0, none⟩ (.int .i64 2)).setCell ⟨w.heap.size + 1, 1, none⟩ (.int .i64 1)).setCell ⟨w.heap.size + 1, 2, none⟩ (.slice (some ⟨wr.heap.size + 1, 0, none⟩) 2 2)) (w.heap.size + 1) 25 [.int .i64 2, .int .i64 1, .slice (some ⟨wr.heap.size + 1, 0, none⟩) 2 2]) := hide ((((((unhide H3).ne e1).ne e1).ne e1).set 0 _).set 1 _ |>.set 2 _)
      have HYB : Hid (Below w.heap.size w ((((((wr.setCell ⟨w.heap.size, 0, none⟩ (.int .i64 2)).setCell ⟨w.heap.size, 1, none⟩ (.int .i64 1)).setCell ⟨w.heap.size, 2, none⟩ (.slice (some ⟨wr.heap.size, 0, none⟩) 2 2)).setCell ⟨w.heap.size + 1, 0, none⟩ (.int .i64 2)).setCell ⟨w.heap.size + 1, 1, none⟩ (.int .i64 1)).setCell ⟨w.heap.size + 1, 2, none⟩ (.slice (some ⟨wr.heap.size + 1, 0, none⟩) 2 2))) := hide (Below.setCell (Below.setCell (Below.setCell (Below.setCell (Below.setCell (Below.setCell (unhide HW) hle0 _) hle0 _) hle0 _) hle1 _) hle1 _) hle1 _)
      have HYS : Hid (((((((wr.setCell ⟨w.heap.size, 0, none⟩ (.int .i64 2)).setCell ⟨w.heap.size, 1, none⟩ (.int .i64 1)).setCell ⟨w.heap.size, 2, none⟩ (.slice (some ⟨wr.heap.size, 0, none⟩) 2 2)).setCell ⟨w.heap.size + 1, 0, none⟩ (.int .i64 2)).setCell ⟨w.heap.size + 1, 1, none⟩ (.int .i64 1)).setCell ⟨w.heap.size + 1, 2, none⟩ (.slice (some ⟨wr.heap.size + 1, 0, none⟩) 2 2)).heap.size = wr.heap.size) := hide (by simp [World.setCell])
      go_wp2_with fail
      clear k0 k1 k2 j0 j1 j2 f2 f3
      generalize (((((wr.setCell ⟨w.heap.size, 0, none⟩ (.int .i64 2)).setCell ⟨w.heap.size, 1, none⟩ (.int .i64 1)).setCell ⟨w.heap.size, 2, none⟩ (.slice (some ⟨wr.heap.size, 0, none⟩) 2 2)).setCell ⟨w.heap.size + 1, 0, none⟩ (.int .i64 2)).setCell ⟨w.heap.size + 1, 1, none⟩ (.int .i64 1)).setCell ⟨w.heap.size + 1, 2, none⟩ (.slice (some ⟨wr.heap.size + 1, 0, none⟩) 2 2) = Y at *
      have hA : Below Y.heap.size Y ((Y.alloc (.cells #[.int .i64 5, .int .i64 5] 3)).alloc (.cells #[.int .i64 1, .int .i64 3] 3)) := ba (ba (Below.refl _ _) _) _
      have hy2 := (unhide HY2).bel hA
      have hy3 := (unhide HY3).bel hA
      have x1 := vb_new1 Y 3 [.int .i64 5, .int .i64 5] (.cells #[.int .i64 1, .int .i64 3] 3)
      have x2 := vb_new2 Y 3 [.int .i64 1, .int .i64 3] (.cells #[.int .i64 5, .int .i64 5] 3)
      rw [unhide HYS] at x1 x2
      have HX1 := hide x1
      have HX2 := hide x2
      have a0 := hy2.cell (m := 0) rfl
      have a1 := hy2.cell (m := 1) rfl
      have a2 := hy2.cell (m := 2) rfl
      have b0 := hy3.cell (m := 0) rfl
      have b1 := hy3.cell (m := 1) rfl
      have b2 := hy3.cell (m := 2) rfl
      have HBN := hide (bc (unhide HYB) hA)
      clear hA hy2 hy3 x1 x2 hlt2 hlt3 HYS
      generalize (Y.alloc (.cells #[.int .i64 5, .int .i64 5] 3)).alloc (.cells #[.int .i64 1, .int .i64 3] 3) = Wn at *
      refine bodyPost_ret (v := .tuple #[.agg #[.int .i64 2, .int .i64 1, .slice (some ⟨wr.heap.size, 0, none⟩) 2 2], .agg #[.int .i64 2, .int .i64 1, .slice (some ⟨wr.heap.size + 1, 0, none⟩) 2 2], .int .i64 0]) (by simp [results, Try.results7, go_sem, a0, a1, a2, b0, b1, b2]) rfl ?_
      exact ⟨⟨2, 1, 0, wr.heap.size, 0, 2, wr.heap.size + 1, 0, 2, 2, [5, 5], [1, 3], rfl, by omega, by omega, by omega, by omega, by omega, rfl, fd_two (unhide HX1), fd_two (unhide HX2), by decide⟩, unhide HBN⟩
end Go.Proofs.Ytjhldjojkaphkaa
