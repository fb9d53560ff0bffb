/-
  The program's outline of a field that is one, at a height that is one.
-/
import Derived.Test.YtjhldjojkaphkaaCol2
import Derived.Test.YtjhldjojkaphkaaTfS
import Derived.Test.YtjhldjojkaphkaaCtM
namespace Go.Proofs.Ytjhldjojkaphkaa
open Go.ChangeShapes Go.WideShapes Go.ChangeAt Go.RowKit Go.Shelf
attribute [local go_sem] Oper.semAt_some
set_option linter.unusedVariables false
set_option linter.unusedSimpArgs false

/-- between two rounds: the function's own boxes; no column so far is above -/
structure Lk (w : World) (B W H n c g po : Nat) (T : List Int) (z : Int) (O : Nat → Prop) (k : Nat) (X : World) : Prop where
  far : ∀ b, O b → B ≤ b
  big : B ≤ X.heap.size
  v2 : vb X w.heap.size 25 [.int .i64 (W : Int), .int .i64 (H : Int), .slice (some ⟨g, po, none⟩) n c]
  v3 : vb X (w.heap.size + 1) 3 [.int .i64 z]
  v4 : vb X (w.heap.size + 1 + 1) 41 [.slice none 0 0]
  v5 : vb X (w.heap.size + 1 + 1 + 1) 3 [.int .i64 0]
  bel : Below w.heap.size w X
  no : ∀ i, i < k → ¬ z < tp T i
theorem Lk.on {w : World} {B W H n c g po : Nat} {T : List Int} {z : Int} {O O' : Nat → Prop} {k : Nat} {X Y : World} (h : Lk w B W H n c g po T z O k X) (hB : w.heap.size + 4 ≤ B) (hg : Grw O X Y) (hO : ∀ b, O' b → O b ∨ X.heap.size ≤ b) : Lk w B W H n c g po T z O' k Y := by
  have hb : Below B X Y := hg.bel h.big h.far
  exact ⟨fun b hb => (hO b hb).elim (h.far b) (fun h1 => Nat.le_trans h.big h1), Nat.le_trans h.big hg.size, h.v2.below hb (by omega), h.v3.below hb (by omega), h.v4.below hb (by omega), h.v5.below hb (by omega), h.bel.trans (hb.mono (by omega)), h.no⟩
/-- behind the round that has ended it -/
structure Lx (w : World) (B W H : Nat) (T : List Int) (z : Int) (O : Nat → Prop) (k : Nat) (X : World) : Prop where
  far : ∀ b, O b → B ≤ b
  big : B ≤ X.heap.size
  got : ∃ v l L, vb X (w.heap.size + 1 + 1) 41 [v] ∧ vb X (w.heap.size + 1 + 1 + 1) 3 [.int .i64 0] ∧ Row X B 46 2 v l L ∧ (∀ q, v.ownBlock = some q → ¬ O q) ∧ Otl W H T z 0 L
  bel : Below w.heap.size w X
theorem Lx.on {w : World} {B W H : Nat} {T : List Int} {z : Int} {O O' : Nat → Prop} {k : Nat} {X Y : World} (h : Lx w B W H T z O k X) (hB : w.heap.size + 4 ≤ B) (hg : Grw O X Y) (hO : ∀ b, O' b → O b ∨ X.heap.size ≤ b) : Lx w B W H T z O' k Y := by
  have hb : Below B X Y := hg.bel h.big h.far
  obtain ⟨v, l, L, h4, h5, hr, hn, ho⟩ := h.got
  exact ⟨fun b hb => (hO b hb).elim (h.far b) (fun h1 => Nat.le_trans h.big h1), Nat.le_trans h.big hg.size, ⟨v, l, L, h4.below hb (by omega), h5.below hb (by omega), hr.kept' (fun q hq => hg.block q (hr.lt q hq).2 (hn q hq)), fun q hq hq' => (hO q hq').elim (hn q hq) (fun h1 => by have := (hr.lt q hq).2; omega), ho⟩, h.bel.trans (hb.mono (by omega))⟩
set_option maxRecDepth 100000 in
set_option maxHeartbeats 8000000 in
theorem ctP_good (W H n c g po : Nat) (T : List Int) (z : Int) (w : World) (hO : FOk (W : Int) (H : Int) T) (hn : n = W * H) (hz : 0 ≤ z ∧ z ≤ 23) (hF : Fd w g po n c T) :
    Calls Try.prog 15 #[fldV (W : Int) (H : Int) (some ⟨g, po, none⟩) n c, .int .i64 z] w fun e w' => (∃ (v : Value) (l : Nat) (L : List Int) (E : Int), e = .returned (.tuple #[v, .int .i64 E]) ∧ Row w' w.heap.size 46 2 v l L ∧ Otl W H T z E L) ∧ Below w.heap.size w w' := by
  obtain ⟨_, _, ea, eb, hW1, hW, hH1, hH, _⟩ := hO.nat
  cases Int.natCast_inj.1 ea
  cases Int.natCast_inj.1 eb
  have hfo : fokB (W : Int) (H : Int) T = true := decide_eq_true hO
  have HFO := hide (fun X (hX : Below w.heap.size w X) => fokP_any (W : Int) (H : Int) (some ⟨g, po, none⟩) g po n c T X hF.len (by have := hF.cap; have := hF.top; omega) (hF.bel hX).its)
  rw [hfo] at HFO
  have HBT := hide (fun X => bt_any z 0 23 X)
  have ez : (decide (0 ≤ z) && decide (z ≤ 23)) = true := by simp [hz]
  rw [ez] at HBT
  have HRI := hide (fun X => risM W H n c g po X)
  have HFd := hide (fun X (hX : Below w.heap.size w X) => hF.bel hX)
  have hg := hF.lt
  have hbl : Below w.heap.size w ((((w.alloc (.cells #[.int .i64 (W : Int), .int .i64 (H : Int), .slice (some ⟨g, po, none⟩) n c] 25)).alloc (.cells #[.int .i64 z] 3)).alloc (.cells #[.slice none 0 0] 41)).alloc (.cells #[.int .i64 0] 3)) := ba (ba (ba (ba (Below.refl _ _) _) _) _) _
  have HB0 := hide hbl
  have V2 := hide ((vb_new1 w 25 [.int .i64 (W : Int), .int .i64 (H : Int), .slice (some ⟨g, po, none⟩) n c] (.cells #[.int .i64 z] 3)).bel (ba (ba (Below.refl _ _) (.cells #[.slice none 0 0] 41)) (.cells #[.int .i64 0] 3)))
  have V3 := hide ((vb_new2 w 3 [.int .i64 z] (.cells #[.int .i64 (W : Int), .int .i64 (H : Int), .slice (some ⟨g, po, none⟩) n c] 25)).bel (ba (ba (Below.refl _ _) (.cells #[.slice none 0 0] 41)) (.cells #[.int .i64 0] 3)))
  have V4 := hide ((vb_new ((w.alloc (.cells #[.int .i64 (W : Int), .int .i64 (H : Int), .slice (some ⟨g, po, none⟩) n c] 25)).alloc (.cells #[.int .i64 z] 3)) 41 [.slice none 0 0] (w.heap.size + 1 + 1) (by simp)).bel (ba (Below.refl _ _) (.cells #[.int .i64 0] 3)))
  have V5 := hide (vb_new (((w.alloc (.cells #[.int .i64 (W : Int), .int .i64 (H : Int), .slice (some ⟨g, po, none⟩) n c] 25)).alloc (.cells #[.int .i64 z] 3)).alloc (.cells #[.slice none 0 0] 41)) 3 [.int .i64 0] (w.heap.size + 1 + 1 + 1) (by simp))
  unfold fldV at *
  have HN := hide hn
  have HWY := hide (fun (x y : Nat) X (hX : Fd X g po n c T) hx hy => tpP_any W H n c g po T x y X hW hH hn hX hx hy)
  have HTF := hide (fun (m b1 b2 b3 n₀ x0 y0 K : Nat) (X : World) h1 h2 h3 hgn hn₀ hv1 hv2 hv3 hF hfs hK => tfS m W H n c g po b1 b2 b3 n₀ x0 y0 K T z X hW1 hW hH1 hH hn h1 h2 h3 hgn hn₀ hv1 hv2 hv3 hF hfs hK)
  unfold fldV at *
  clear hF hfo ea eb hO hbl ez hn
  refine (callsIn_wide (n := 0)).1 ?_
  refine callsIn_of_wp_marks Try.func15 rfl trivial ?_ rfl
  simp only [Try.ntmps15, List.size_toArray, List.length_cons, List.length_nil, Nat.reduceAdd, Nat.reduceSub, Array.replicate_succ, Array.replicate_zero, List.push_toArray, List.append_toArray, List.nil_append, List.cons_append]
  gi_wp2
  refine ⟨trivial, rfl, (callsIn_wide.2 (unhide HFO _ (unhide HB0))).mono ?_⟩
  rintro _ W1 ⟨rfl, hb1⟩
  have U2 := hide ((unhide V2).bel hb1)
  have U3 := hide ((unhide V3).bel hb1)
  have U4 := hide ((unhide V4).bel hb1)
  have U5 := hide ((unhide V5).bel hb1)
  have HB1 := hide (bc (unhide HB0) hb1)
  clear hb1 V2 V3 V4 V5 HB0 HFO
  have z0 := (unhide U3).cell (m := 0) rfl
  gi_wp2
  refine ⟨trivial, rfl, (callsIn_wide.2 (unhide HBT _)).mono ?_⟩
  rintro _ Wq ⟨rfl, hq⟩
  rw [hq]
  clear hq
  have k0 := (unhide U2).cell (m := 0) rfl
  have k1 := (unhide U2).cell (m := 1) rfl
  have k2 := (unhide U2).cell (m := 2) rfl
  gi_wp2
  refine ⟨trivial, rfl, (callsIn_wide.2 (unhide HRI _)).mono ?_⟩
  rintro _ Wq ⟨rfl, hq⟩
  rw [hq]
  clear hq
  have hA := (ba (Below.refl W1.heap.size W1) (.cells #[.int .i64 (W : Int), .int .i64 (H : Int), .slice (some ⟨g, po, none⟩) n c] 25))
  have T2 := hide ((unhide U2).bel hA)
  have T3 := hide ((unhide U3).bel hA)
  have T4 := hide ((unhide U4).bel hA)
  have T5 := hide ((unhide U5).bel hA)
  have HB2 := hide (bc (unhide HB1) hA)
  have TR := hide (vb_new W1 25 [.int .i64 (W : Int), .int .i64 (H : Int), .slice (some ⟨g, po, none⟩) n c] W1.heap.size rfl)
  have h5lt := (unhide T5).lt
  have hW1s := (unhide U5).lt
  clear hA U2 U3 U4 U5 HB1 HRI HBT k0 k1 k2 z0
  gi_wp2
  generalize hWL : W1.alloc (.cells #[.int .i64 (W : Int), .int .i64 (H : Int), .slice (some ⟨g, po, none⟩) n c] 25) = WL at *
  have hWs : W1.heap.size < WL.heap.size := by rw [← hWL]; simp
  clear hWL
  obtain ⟨B, hB⟩ : ∃ B, WL.heap.size = B := ⟨_, rfl⟩
  have HBB := hide hB
  have hB4 : w.heap.size + 4 ≤ B := by omega
  refine range_seq (n₀ := B) (N := W * H) rfl (fun h => by cases h) (gf := 86) (lb := #[.pointer (some ⟨W1.heap.size, 0, none⟩)]) rfl trivial (enters_of Try.func86 (by kernel_rfl) rfl) (by omega) (risS 0 W H n c g po W1.heap.size B WL hW1 hW hH (by omega) (by omega) (unhide TR)) (Below.refl _ _) (fun _ => rfl) (Lk w B W H n c g po T z) (Lx w B W H T z) (fun O O' k A B h hg hO => h.on hB4 hg hO) (fun O O' k A B h hg hO => h.on hB4 hg hO)
    ⟨fun _ h => h.elim, by omega, unhide T2, unhide T3, unhide T4, unhide T5, unhide HB2, fun i hi => absurd hi (Nat.not_lt_zero _)⟩
    (fun O k a' X => ∃ b6, vb X b6 46 [.int .i64 ((k % W : Nat) : Int), .int .i64 ((k / W : Nat) : Int)] ∧ ¬ O b6 ∧ B ≤ b6 ∧ a' = ({ tmps := #[.agg #[.int .i64 (W : Int), .int .i64 (H : Int), .slice (some ⟨g, po, none⟩) n c], .int .i64 z, .pointer (some ⟨w.heap.size, 0, none⟩), .pointer (some ⟨w.heap.size + 1, 0, none⟩), .pointer (some ⟨w.heap.size + 1 + 1, 0, none⟩), .pointer (some ⟨w.heap.size + 1 + 1 + 1, 0, none⟩), .pointer (some ⟨b6, 0, none⟩), .bool false, .agg #[.int .i64 (W : Int), .int .i64 (H : Int), .slice (some ⟨g, po, none⟩) n c], .bool true, .bool false, .bool false, .int .i64 z, .bool true, .bool false, .agg #[.int .i64 (W : Int), .int .i64 (H : Int), .slice (some ⟨g, po, none⟩) n c], .func (.func 86) #[] #[.pointer (some ⟨W1.heap.size, 0, none⟩)], .agg #[.int .i64 ((k % W : Nat) : Int), .int .i64 ((k / W : Nat) : Int)], undef, undef, undef, undef, undef, undef, undef, undef, undef, undef], defers := [] } : Act))
    (fun O k a' A B' h hg => by obtain ⟨b6, h1, h2, h3, h4⟩ := h; exact ⟨b6, (hg.block _ h1.lt h2).trans h1, h2, h3, h4⟩) ?assign ?body ?done ?stop
  case assign =>
    intro l O k X K hk hO hi hK
    have HK := hide hK
    have HI := hide hi
    clear hK hi
    unfold ptk
    gi_wp2
    have hA : Below X.heap.size X (X.alloc (.cells #[.int .i64 ((k % W : Nat) : Int), .int .i64 ((k / W : Nat) : Int)] 46)) := ba (Below.refl _ _) _
    exact unhide HK _ _ (Kpt.of_bel hA (unhide HI).big) ((unhide HI).on hB4 (Grw.of_bel hA) (fun b hb => .inl hb)) ⟨X.heap.size, vb_new X 46 _ _ rfl, fun h => by have := (hO _ h).2; omega, (unhide HI).big, rfl⟩
  case body =>
    rintro l O k a' X hk hO hi ⟨b6, h6, hn6, hl6, rfl⟩
    have HI := hide hi
    have H6 := hide h6
    have hWp : 0 < W := by omega
    obtain ⟨x, hx⟩ : ∃ x, k % W = x := ⟨_, rfl⟩
    obtain ⟨y, hy⟩ : ∃ y, k / W = y := ⟨_, rfl⟩
    have hxW : x < W := by rw [← hx]; exact Nat.mod_lt _ hWp
    have hyH : y < H := by rw [← hy]; exact Nat.div_lt_of_lt_mul hk
    have hxy : y * W + x = k := by rw [← hx, ← hy, Nat.mul_comm]; exact Nat.div_add_mod k W
    rw [hx, hy] at H6 ⊢
    have HXY := hide hxy
    have HFx := hide (unhide HFd X hi.bel)
    obtain ⟨t, ht⟩ : ∃ t, tp T k = t := ⟨_, rfl⟩
    have HTT := hide ht
    have HT : Hid (∀ Y, Below X.heap.size X Y → Calls Try.prog 52 #[.agg #[.int .i64 (W : Int), .int .i64 (H : Int), .slice (some ⟨g, po, none⟩) n c], .agg #[.int .i64 (x : Int), .int .i64 (y : Int)]] Y fun e w' => e = .returned (.int .i64 t) ∧ Below Y.heap.size Y w') := hide (fun Y hY => by have h9 := unhide HWY x y Y ((unhide HFx).bel hY) hxW hyH; rw [hxy, ht] at h9; exact h9)
    have k0 := hi.v2.cell (m := 0) rfl
    have k1 := hi.v2.cell (m := 1) rfl
    have k2 := hi.v2.cell (m := 2) rfl
    have z0 := hi.v3.cell (m := 0) rfl
    have p0 := (unhide H6).cell (m := 0) rfl
    have p1 := (unhide H6).cell (m := 1) rfl
    have hmx : Try.prog.follows .mixedOrders = true := by kernel_rfl
    clear hi h6 hx hy hxy ht
    gi_wp2
    gi_region_with_o (refine ⟨trivial, rfl, ?_⟩; refine (CallsIn.inRound l (callsIn_wide.2 (unhide HT _ (by repeat (first | exact Below.refl _ _ | refine Below.drew ?_))))).mono ?_; rintro e w' ⟨rfl, hb⟩; have HBq := hide (show Below X.heap.size X w' from bc (by repeat (first | exact Below.refl _ _ | refine Below.drew ?_)) hb); have zz := keep1 (unhide HBq) z0; clear hb)
    all_goals
      have HIq := hide ((unhide HI).on hB4 (Grw.of_bel (unhide HBq)) (fun b hb => .inl hb))
      have H6q := hide ((unhide H6).bel (unhide HBq))
      have HKq := hide (Kpt.of_bel (O := O) (unhide HBq) (unhide HI).big)
      have hszq := (unhide HBq).size
      clear k0 k1 k2 z0 p0 p1
      by_cases hzt : z < t
      · rw [decide_eq_true hzt]
        have hfst : Fst W H T z x y := ⟨hxW, hyH, by rw [unhide HXY, unhide HTT]; exact hzt, fun u v hu hv hlt => (unhide HI).no _ (by have := unhide HXY; omega)⟩
        obtain ⟨K, hK⟩ := Bck.ex hW hH (Ab_in (W := W) (H := H) (T := T) (z := z)) hfst.ok.1
        have HFS := hide hfst
        have HKK := hide hK
        have k0 := (unhide HIq).v2.cell (m := 0) rfl
        have k1 := (unhide HIq).v2.cell (m := 1) rfl
        have k2 := (unhide HIq).v2.cell (m := 2) rfl
        have p0 := (unhide H6q).cell (m := 0) rfl
        have p1 := (unhide H6q).cell (m := 1) rfl
        have HTM := hide (fun Y => trfM W H n c g po (x : Int) (y : Int) z Y)
        unfold fldV at HTM
        clear hzt hfst hK
        gi_wp2
        refine ⟨trivial, rfl, (CallsIn.inRound l (callsIn_wide.2 (unhide HTM _))).mono ?_⟩
        rintro _ Wq ⟨rfl, hq⟩
        rw [hq]
        clear hq HTM k0 k1 k2 p0 p1 zz
        have hbl : Below w'.heap.size w' (((w'.alloc (.cells #[.int .i64 (W : Int), .int .i64 (H : Int), .slice (some ⟨g, po, none⟩) n c] 25)).alloc (.cells #[.int .i64 (x : Int), .int .i64 (y : Int)] 46)).alloc (.cells #[.int .i64 z] 3)) := ba (ba (ba (Below.refl _ _) _) _) _
        have G2 := ((vb_new1 w' 25 [.int .i64 (W : Int), .int .i64 (H : Int), .slice (some ⟨g, po, none⟩) n c] (.cells #[.int .i64 (x : Int), .int .i64 (y : Int)] 46)).bel (ba (Below.refl _ _) (.cells #[.int .i64 z] 3)))
        have G1 := ((vb_new2 w' 46 [.int .i64 (x : Int), .int .i64 (y : Int)] (.cells #[.int .i64 (W : Int), .int .i64 (H : Int), .slice (some ⟨g, po, none⟩) n c] 25)).bel (ba (Below.refl _ _) (.cells #[.int .i64 z] 3)))
        have G3 := (vb_new ((w'.alloc (.cells #[.int .i64 (W : Int), .int .i64 (H : Int), .slice (some ⟨g, po, none⟩) n c] 25)).alloc (.cells #[.int .i64 (x : Int), .int .i64 (y : Int)] 46)) 3 [.int .i64 z] (w'.heap.size + 1 + 1) (by simp))
        have hsq := unhide HTF 0 (w'.heap.size + 1) w'.heap.size (w'.heap.size + 1 + 1) (w'.heap.size + 1 + 1 + 1) x y K _ (by omega) (by omega) (by omega) (by have := (unhide HFx).lt; omega) (by simp) G1 G2 G3 (((unhide HFx).bel (unhide HBq)).bel hbl) (unhide HFS) (unhide HKK)
        have HCL := hide (clS 88 #[.pointer (some ⟨w'.heap.size + 1, 0, none⟩), .pointer (some ⟨w'.heap.size, 0, none⟩), .pointer (some ⟨w'.heap.size + 1 + 1, 0, none⟩)] (crn (Ab W H T z) ⟨(x : Int), (y : Int), 3⟩ K) (ctn (Ab W H T z) ⟨(x : Int), (y : Int), 3⟩ K) (w'.heap.size + 1 + 1 + 1) _ (Nat.le_trans (ctn_le _ _ K) (unhide HKK).le) (crn_len _ _ K) (by simp) (enters_of Try.func88 (by kernel_rfl) rfl) hsq)
        have HBr := hide hbl
        clear hbl G1 G2 G3 hsq
        gi_wp2
        refine ⟨trivial, rfl, (CallsIn.inRound l (callsIn_wide.2 (unhide HCL))).mono ?_⟩
        rintro _ W7 ⟨v, rfl, hr, hb7⟩
        have HB7 := hide (bc (unhide HBr) hb7)
        have HIr := hide ((unhide HIq).on hB4 (Grw.of_bel (unhide HB7)) (fun b hb => .inl hb))
        have HR7 := hide (hr.mono (show B ≤ _ by have := (unhide HIq).big; have := (unhide HBr).size; omega))
        have HNO : Hid (∀ q, v.ownBlock = some q → ¬ O q) := hide (fun q hq ho => by have h1 := (hr.lt q hq).1; have h2 := (hO q ho).2; have := (unhide HBr).size; omega)
        obtain ⟨u, cp, hv, _⟩ := hr.form
        clear hb7 hr
        subst hv
        have c4 := (unhide HIr).v4.cell (m := 0) rfl
        have f4 := (unhide HIr).v4.frozen
        have c5 := (unhide HIr).v5.cell (m := 0) rfl
        have f5 := (unhide HIr).v5.frozen
        clear HCL HBr
        gi_wp2
        have e45 : w.heap.size + 1 + 1 ≠ w.heap.size + 1 + 1 + 1 := by omega
        refine ⟨fun b hb hbs => ?_, (unhide HIr).far, ?_, ⟨_, _, _, ((unhide HIr).v4.set 0 _).ne e45, (((unhide HIr).v5.ne e45.symm).set 0 _), (unhide HR7).kept' (fun q hq => ?_), unhide HNO, ⟨fun hno => absurd (unhide HFS).ab (hno _ (ix_lt hxW hyH)), fun x' y' K' hF' hB' => ?_⟩⟩, ((unhide HIr).bel.setCell (p := ⟨w.heap.size + 1 + 1, 0, none⟩) (by simp; omega) _).setCell (p := ⟨w.heap.size + 1 + 1 + 1, 0, none⟩) (by simp; omega) _⟩
        · have h1 := (unhide HIr).far b hb
          have m1 : b ≠ w.heap.size + 1 + 1 + 1 := by omega
          have m2 : b ≠ w.heap.size + 1 + 1 := by omega
          exact ((Below.heap_setCell _ _ _ _ m1).trans (Below.heap_setCell _ _ _ _ m2)).trans (((unhide HB7).block b (by omega)).trans ((unhide HBq).block b hbs))
        · have := (unhide HIr).big
          simpa using this
        · have h1 := ((unhide HR7).lt q hq).1
          have m1 : q ≠ w.heap.size + 1 + 1 + 1 := by omega
          have m2 : q ≠ w.heap.size + 1 + 1 := by omega
          exact (Below.heap_setCell _ _ _ _ m1).trans (Below.heap_setCell _ _ _ _ m2)
        · obtain ⟨rfl, rfl⟩ := hF'.uniq (unhide HFS)
          obtain rfl := hB'.uniq (unhide HKK)
          exact ⟨rfl, rfl⟩
      · rw [decide_eq_false hzt]
        have HNZ := hide hzt
        clear hzt
        gi_wp2
        refine ⟨unhide HKq, { unhide HIq with no := fun i hi => ?_ }⟩
        by_cases h9 : i = k
        · rw [h9, unhide HTT]
          have := unhide HNZ
          omega
        · exact (unhide HIq).no i (by omega)
  case done =>
    intro O D X hD hi hK hOD
    have HI := hide hi
    have HK := hide hK
    have c4 := hi.v4.cell (m := 0) rfl
    have f4 := hi.v4.frozen
    have c5 := hi.v5.cell (m := 0) rfl
    have f5 := hi.v5.frozen
    have e45 : w.heap.size + 1 + 1 ≠ w.heap.size + 1 + 1 + 1 := by omega
    have V4 := hide ((hi.v4.set 0 (.slice none 0 0)).ne (o := 0) (x := .int .i64 8) e45)
    have V5 := hide ((hi.v5.ne (o := 0) (x := .slice none 0 0) e45.symm).set 0 (.int .i64 8))
    clear hi hK
    gi_wp2
    have hD4 : D ≠ w.heap.size + 1 + 1 := by omega
    have hD5 : D ≠ w.heap.size + 1 + 1 + 1 := by omega
    have hK9 : ((X.setCell ⟨w.heap.size + 1 + 1, 0, none⟩ (.slice none 0 0)).setCell ⟨w.heap.size + 1 + 1 + 1, 0, none⟩ (.int .i64 8)).heap[D]? = some (.deferred (some [])) := ((Below.heap_setCell _ _ _ _ hD5).trans (Below.heap_setCell _ _ _ _ hD4)).trans (unhide HK)
    refine ⟨by simp, .inl ⟨_, _, rfl, run_takeDeferred hK9, ?_⟩⟩
    have s4 := (vb.cell (show vb (((X.setCell ⟨w.heap.size + 1 + 1, 0, none⟩ (.slice none 0 0)).setCell ⟨w.heap.size + 1 + 1 + 1, 0, none⟩ (.int .i64 8)).putObj D (.deferred none)) (w.heap.size + 1 + 1) 41 [.slice none 0 0] from (World.putObj_heap_other hD4.symm).trans (unhide V4)) (m := 0) rfl)
    have s5 := (vb.cell (show vb (((X.setCell ⟨w.heap.size + 1 + 1, 0, none⟩ (.slice none 0 0)).setCell ⟨w.heap.size + 1 + 1 + 1, 0, none⟩ (.int .i64 8)).putObj D (.deferred none)) (w.heap.size + 1 + 1 + 1) 3 [.int .i64 8] from (World.putObj_heap_other hD5.symm).trans (unhide V5)) (m := 0) rfl)
    refine ⟨.tuple #[.slice none 0 0, .int .i64 8], by simp [results, Try.results15, go_sem, s4, s5], ⟨_, 0, [], 8, rfl, World.ownsRow_nil _ _ _ _, ⟨fun _ => ⟨rfl, rfl⟩, fun x y K hF _ => absurd hF.ab ((unhide HI).no _ (ix_lt hF.hx hF.hy))⟩⟩, ?_⟩
    exact (((unhide HI).bel.setCell (p := ⟨w.heap.size + 1 + 1, 0, none⟩) (by simp; omega) _).setCell (p := ⟨w.heap.size + 1 + 1 + 1, 0, none⟩) (by simp; omega) _).trans ⟨rfl, rfl, rfl, by simp, fun b hb => World.putObj_heap_other (by omega)⟩
  case stop =>
    intro O D k X hD hk hi hK hOD
    obtain ⟨v, l, L, h4, h5, hr, hnO, ho⟩ := hi.got
    have HI := hide hi
    have HK := hide hK
    have H4 := hide h4
    have H5 := hide h5
    have HR := hide hr
    have HNO := hide hnO
    have HO := hide ho
    clear hi hK h4 h5 hr hnO ho
    gi_wp2
    have hD4 : D ≠ w.heap.size + 1 + 1 := by omega
    have hD5 : D ≠ w.heap.size + 1 + 1 + 1 := by omega
    refine ⟨by simp, .inl ⟨_, _, rfl, run_takeDeferred (unhide HK), ?_⟩⟩
    have s4 := (vb.cell (show vb (X.putObj D (.deferred none)) (w.heap.size + 1 + 1) 41 [v] from (World.putObj_heap_other hD4.symm).trans (unhide H4)) (m := 0) rfl)
    have s5 := (vb.cell (show vb (X.putObj D (.deferred none)) (w.heap.size + 1 + 1 + 1) 3 [.int .i64 0] from (World.putObj_heap_other hD5.symm).trans (unhide H5)) (m := 0) rfl)
    refine ⟨.tuple #[v, .int .i64 0], by simp [results, Try.results15, go_sem, s4, s5], ⟨v, l, L, 0, rfl, ((unhide HR).kept' (fun q hq => World.putObj_heap_other (fun e => unhide HNO q hq (by rw [e]; exact hOD)))).mono (by omega), unhide HO⟩, ?_⟩
    exact (unhide HI).bel.trans ⟨rfl, rfl, rfl, by simp, fun b hb => World.putObj_heap_other (by omega)⟩
end Go.Proofs.Ytjhldjojkaphkaa
